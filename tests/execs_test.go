package tests

import (
	"math"
	"slices"
	"testing"

	"loop.example/g00609/impl"
)

// An execCase is what a command does to a book; the records are without Sym.
type execCase struct {
	name string
	book impl.Book
	c    impl.Cmd
	want impl.Book
	recs []impl.Rec
}

func sameExec(t *testing.T, x execCase) {
	t.Helper()
	n, recs := impl.Exec(x.book, x.c)
	if !sameBook(n, x.want) || !slices.Equal(recs, x.recs) {
		t.Errorf("%s: %+v on %v\nyields %v %+v,\nnot %v %+v", x.name, x.c, x.book, n, recs, x.want, x.recs)
	}
	if !impl.BookOk(n) {
		t.Errorf("%s: the book is not valid: %v", x.name, n)
	}
}

func withSym(l []impl.Rec, sym int64) []impl.Rec {
	l = slices.Clone(l)
	for i := range l {
		l[i].Sym = sym
	}
	return l
}

// wantExec checks what a command of a buyer does, the same one of a seller, and both with each symbol.
func wantExec(t *testing.T, name string, b impl.Book, c impl.Cmd, want impl.Book, recs ...impl.Rec) {
	t.Helper()
	for sym := range int64(4) {
		c.Sym = sym
		sameExec(t, execCase{name, b, c, want, withSym(recs, sym)})
		sameExec(t, execCase{name + ", mirrored", mirroredBook(b), mirroredCmd(c), mirroredBook(want), mirroredRecs(withSym(recs, sym))})
	}
}

func wantRefused(t *testing.T, name string, b impl.Book, c impl.Cmd, code int64) {
	t.Helper()
	wantExec(t, name, b, c, b, refused(c, code))
}

func wantRefusedForm(t *testing.T, name string, b impl.Book, c impl.Cmd) {
	t.Helper()
	sameExec(t, execCase{name, b, c, b, []impl.Rec{refused(c, impl.RcForm)}})
}

// buy is the command to enter an order to buy.
func buy(kind int64, o impl.Order, mode int64) impl.Cmd {
	return impl.Cmd{Kind: kind, Acct: o.Acct, Id: o.Id, Side: impl.SdBuy, Price: o.Price, Qty: o.Qty, Mode: mode}
}

func sell(kind int64, o impl.Order, mode int64) impl.Cmd {
	c := buy(kind, o, mode)
	c.Side = impl.SdSell
	return c
}

func cancel(acct int64, id int64) impl.Cmd {
	return impl.Cmd{Kind: impl.CkCancel, Acct: acct, Id: id}
}

func replace(o impl.Order, mode int64) impl.Cmd {
	return impl.Cmd{Kind: impl.CkRepl, Acct: o.Acct, Id: o.Id, Price: o.Price, Qty: o.Qty, Mode: mode}
}

func bids(l ...impl.Order) impl.Book {
	return impl.Book{Bids: l, Asks: []impl.Order{ask1, ask2, ask3}}
}

// fullBids has 20 bids of the prices 100 to 81, of the accounts 12 to 31, and the asks of matchBook.
func fullBids() impl.Book {
	return bids(run(11, 20, 100, -1)...)
}

func TestKindsOfRecordsAndCodes(t *testing.T) {
	kinds := []int64{impl.RkAck, impl.RkReject, impl.RkFill, impl.RkCancel, impl.RkDone}
	codes := []int64{impl.RcForm, impl.RcBlocked, impl.RcTwice, impl.RcNone, impl.RcCross, impl.RcFill, impl.RcRoom}
	if !slices.Equal(kinds, []int64{1, 2, 3, 4, 5}) || !slices.Equal(codes, []int64{1, 2, 3, 4, 5, 6, 7}) {
		t.Errorf("kinds %v, codes %v", kinds, codes)
	}
}

func TestExecOfInvalidBooks(t *testing.T) {
	for name, b := range invalidBooks() {
		cmds := []impl.Cmd{{}, {Kind: impl.CkMass, Acct: 1}, buy(impl.CkLimit, by(1, 999, 50, 1), 1), cancel(5, 5), replace(by(5, 5, 5, 4), 1)}
		for _, c := range cmds {
			if n, l := impl.Exec(b, c); !sameBook(n, impl.Book{}) || len(l) != 0 {
				t.Errorf("%s: %+v yields %v %v", name, c, n, l)
			}
		}
		for _, o := range append(slices.Clone(b.Bids), b.Asks...) {
			if n, l := impl.CancelAll(b, o.Acct); !sameBook(n, impl.Book{}) || len(l) != 0 {
				t.Errorf("%s: CancelAll of %d yields %v %v", name, o.Acct, n, l)
			}
		}
	}
}

func TestExecRefusesInvalidCommands(t *testing.T) {
	b := matchBook()
	wantRefusedForm(t, "the zero command", b, impl.Cmd{})
	wantRefusedForm(t, "an empty book", impl.Book{}, impl.Cmd{Acct: 7, Id: 8})
	for _, kind := range []int64{impl.CkMass, impl.CkBlock, impl.CkFree} {
		for _, acct := range []int64{1, 3, 7, 100} {
			wantRefusedForm(t, "not on a book", b, impl.Cmd{Kind: kind, Acct: acct})
		}
		wantRefusedForm(t, "neither valid", b, impl.Cmd{Kind: kind, Sym: 2, Acct: 1, Id: 5})
	}
	for kind := int64(impl.CkLimit); kind <= impl.CkRepl; kind++ {
		good := cmdOfKind(kind, func(f field[impl.Cmd]) int64 { return min(f.low+1, f.high) })
		for _, f := range cmdFields() {
			for _, n := range append(outside(f.low, f.high), f.low) {
				c := good
				*f.at(&c) = n
				if !validCmd(c) {
					wantRefusedForm(t, f.name, b, c)
					wantRefusedForm(t, f.name, impl.Book{}, c)
				}
			}
		}
		for _, bad := range outside(1, 10) {
			c := good
			c.Kind = bad
			wantRefusedForm(t, "Kind", b, c)
		}
	}
}

func TestExecLimits(t *testing.T) {
	far := impl.Book{Bids: []impl.Order{by(50, 50, 1, 9)}, Asks: []impl.Order{by(51, 51, 1000000, 9)}}
	for kind := int64(impl.CkLimit); kind <= impl.CkPost; kind++ {
		for _, f := range cmdFields() {
			for _, n := range []int64{f.low, f.high} {
				c := cmdOfKind(kind, func(f field[impl.Cmd]) int64 { return 1 + f.low })
				c.Price = min(c.Price*500, 500)
				*f.at(&c) = n
				if uses(kind, f.name) {
					m := marketOf(far)
					recs := m.exec(c)
					sameExec(t, execCase{f.name, far, c, m.book(), recs})
				}
			}
		}
	}
}

func TestCancel(t *testing.T) {
	wantExec(t, "first", matchBook(), cancel(1, 1), asks(ask2, ask3), gone(ask1, 5))
	wantExec(t, "in the middle", matchBook(), cancel(2, 2), asks(ask1, ask3), gone(ask2, 3))
	wantExec(t, "last", matchBook(), cancel(3, 3), asks(ask1, ask2), gone(ask3, 4))
	wantExec(t, "the only one", matchBook(), cancel(3, 4), bids(), gone(bid4, 2))
	big := by(100, 1000000000, 1000000, 1000000)
	wantExec(t, "greatest values", impl.Book{Bids: []impl.Order{big}}, cancel(100, 1000000000), impl.Book{}, gone(big, 1000000))
}

func TestCancelAndReplaceWithoutOrder(t *testing.T) {
	for _, b := range []impl.Book{{}, matchBook(), fullBids()} {
		for _, id := range []int64{5, 9, 1000000000} {
			wantRefused(t, "no such order", b, cancel(1, id), impl.RcNone)
			wantRefused(t, "no such order", b, replace(by(1, id, 101, 5), impl.SpNew), impl.RcNone)
		}
	}
	for acct := int64(1); acct <= 100; acct++ {
		for _, o := range []impl.Order{bid4, ask1, ask2, ask3} {
			if acct == o.Acct {
				continue
			}
			wantRefused(t, "another account's", matchBook(), cancel(acct, o.Id), impl.RcNone)
			for _, x := range []impl.Order{o, left(o, 1), left(o, 10), by(acct, o.Id, 100, 1)} {
				x.Acct = acct
				wantRefused(t, "another account's", matchBook(), replace(x, impl.SpOld), impl.RcNone)
			}
		}
	}
}

func TestNewOrdersWithATakenId(t *testing.T) {
	for kind := int64(impl.CkLimit); kind <= impl.CkPost; kind++ {
		for id := int64(1); id <= 4; id++ {
			for _, acct := range []int64{1, 2, 3, 4} {
				for _, price := range []int64{90, 100, 101, 103} {
					o := by(acct, id, price, 20)
					if kind == impl.CkMarket {
						o.Price = 0
					}
					wantRefused(t, "taken", matchBook(), buy(kind, o, impl.SpOld), impl.RcTwice)
				}
			}
		}
	}
	o := by(90, 11, 100, 1)
	wantRefused(t, "taken, before a full side", fullBids(), buy(impl.CkPost, o, impl.SpNew), impl.RcTwice)
	wantRefused(t, "taken, on a full side", fullBids(), buy(impl.CkLimit, o, impl.SpNew), impl.RcTwice)
}

func TestAnInvalidCommandIsRefusedFirst(t *testing.T) {
	for _, kind := range []int64{impl.CkLimit, impl.CkIoc, impl.CkFok, impl.CkPost} {
		for _, o := range []impl.Order{by(4, 1, 101, 50), by(4, 9, 101, 50), by(4, 9, 100, 1)} {
			c := buy(kind, o, 4)
			c.Sym = 2
			wantRefusedForm(t, "mode", matchBook(), c)
			wantRefusedForm(t, "mode", fullBids(), c)
			c.Mode, c.Sym = 1, 4
			wantRefusedForm(t, "symbol", matchBook(), c)
		}
	}
	c := cancel(1, 99)
	c.Side = 1
	wantRefusedForm(t, "cancel with a side", matchBook(), c)
	c = replace(by(1, 99, 1, 1), 1)
	c.Side = 2
	wantRefusedForm(t, "replace with a side", matchBook(), c)
}

func TestFillOrKill(t *testing.T) {
	for mode := int64(impl.SpNew); mode <= impl.SpBoth; mode++ {
		o := by(4, 9, 101, 8)
		wantExec(t, "filled exactly", matchBook(), buy(impl.CkFok, o, mode), asks(ask3), ack(o), fill(o, ask1, 5), fill(o, ask2, 3))
		wantRefused(t, "one too many", matchBook(), buy(impl.CkFok, left(o, 9), mode), impl.RcFill)
		wantRefused(t, "behind the limit", matchBook(), buy(impl.CkFok, by(4, 9, 100, 1), mode), impl.RcFill)
		wantRefused(t, "on a full side", fullBids(), buy(impl.CkFok, left(o, 9), mode), impl.RcFill)
		wantRefused(t, "an empty book", impl.Book{}, buy(impl.CkFok, o, mode), impl.RcFill)
		o = by(4, 9, 103, 12)
		wantExec(t, "all", matchBook(), buy(impl.CkFok, o, mode), asks(), ack(o), fill(o, ask1, 5), fill(o, ask2, 3), fill(o, ask3, 4))
		o = by(4, 9, 103, 1)
		wantExec(t, "on a full side", fullBids(), buy(impl.CkFok, o, mode), impl.Book{Bids: fullBids().Bids, Asks: []impl.Order{left(ask1, 4), ask2, ask3}}, ack(o), fill(o, ask1, 1))
	}
}

func TestFillOrKillWithOwnOrders(t *testing.T) {
	for _, mode := range []int64{impl.SpNew, impl.SpBoth} {
		wantRefused(t, "own first", matchBook(), buy(impl.CkFok, by(1, 9, 103, 1), mode), impl.RcFill)
		wantRefused(t, "own in the middle", matchBook(), buy(impl.CkFok, by(2, 9, 103, 6), mode), impl.RcFill)
		wantRefused(t, "own last", matchBook(), buy(impl.CkFok, by(3, 9, 103, 9), mode), impl.RcFill)
		o := by(2, 9, 103, 5)
		wantExec(t, "filled before its own", matchBook(), buy(impl.CkFok, o, mode), asks(ask2, ask3), ack(o), fill(o, ask1, 5))
	}
	o := by(1, 9, 103, 7)
	wantExec(t, "own first", matchBook(), buy(impl.CkFok, o, impl.SpOld), asks(), ack(o), gone(ask1, 5), fill(o, ask2, 3), fill(o, ask3, 4))
	wantRefused(t, "own first, one too many", matchBook(), buy(impl.CkFok, left(o, 8), impl.SpOld), impl.RcFill)
	o = by(2, 9, 103, 6)
	wantExec(t, "own in the middle", matchBook(), buy(impl.CkFok, o, impl.SpOld), asks(left(ask3, 3)), ack(o), fill(o, ask1, 5), gone(ask2, 3), fill(o, ask3, 1))
	wantRefused(t, "own last", matchBook(), buy(impl.CkFok, by(3, 9, 103, 9), impl.SpOld), impl.RcFill)
}

func TestPost(t *testing.T) {
	for mode := int64(impl.SpNew); mode <= impl.SpBoth; mode++ {
		o := by(4, 9, 100, 9)
		wantExec(t, "one less than the price", matchBook(), buy(impl.CkPost, o, mode), bids(o, bid4), ack(o))
		o.Price = 99
		wantExec(t, "behind an equal price", matchBook(), buy(impl.CkPost, o, mode), bids(bid4, o), ack(o))
		wantExec(t, "an empty book", impl.Book{}, buy(impl.CkPost, o, mode), impl.Book{Bids: []impl.Order{o}}, ack(o))
		for _, price := range []int64{101, 102, 1000000} {
			for acct := int64(1); acct <= 4; acct++ {
				wantRefused(t, "crossing", matchBook(), buy(impl.CkPost, by(acct, 9, price, 1), mode), impl.RcCross)
			}
			wantRefused(t, "crossing from a full side", fullBids(), buy(impl.CkPost, by(90, 99, price, 1), mode), impl.RcCross)
		}
		for _, price := range []int64{100, 95, 1} {
			wantRefused(t, "a full side", fullBids(), buy(impl.CkPost, by(90, 99, price, 1), mode), impl.RcRoom)
		}
	}
}

func TestLimitRests(t *testing.T) {
	for mode := int64(impl.SpNew); mode <= impl.SpBoth; mode++ {
		for _, x := range []struct{ price, place int }{{100, 0}, {99, 1}, {98, 1}, {1, 1}} {
			o := by(4, 9, int64(x.price), 9)
			want := bids(slices.Insert([]impl.Order{bid4}, x.place, o)...)
			wantExec(t, "all of it", matchBook(), buy(impl.CkLimit, o, mode), want, ack(o))
		}
		o := by(4, 9, 102, 10)
		want := impl.Book{Bids: []impl.Order{left(o, 2), bid4}, Asks: []impl.Order{ask3}}
		wantExec(t, "what is left", matchBook(), buy(impl.CkLimit, o, mode), want, ack(o), fill(o, ask1, 5), fill(o, ask2, 3))
		o = left(o, 9)
		want.Bids[0].Qty = 1
		wantExec(t, "one is left", matchBook(), buy(impl.CkLimit, o, mode), want, ack(o), fill(o, ask1, 5), fill(o, ask2, 3))
		o = left(o, 8)
		wantExec(t, "filled exactly", matchBook(), buy(impl.CkLimit, o, mode), asks(ask3), ack(o), fill(o, ask1, 5), fill(o, ask2, 3))
		o = by(4, 9, 1000000, 13)
		want = impl.Book{Bids: []impl.Order{left(o, 1), bid4}}
		wantExec(t, "the side is used up", matchBook(), buy(impl.CkLimit, o, mode), want, ack(o), fill(o, ask1, 5), fill(o, ask2, 3), fill(o, ask3, 4))
	}
}

func TestLimitWithOwnOrders(t *testing.T) {
	o := by(1, 9, 102, 10)
	wantExec(t, "own first", matchBook(), buy(impl.CkLimit, o, impl.SpNew), matchBook(), ack(o), gone(o, 10))
	want := impl.Book{Bids: []impl.Order{left(o, 7), bid4}, Asks: []impl.Order{ask3}}
	wantExec(t, "own first", matchBook(), buy(impl.CkLimit, o, impl.SpOld), want, ack(o), gone(ask1, 5), fill(o, ask2, 3))
	wantExec(t, "own first", matchBook(), buy(impl.CkLimit, o, impl.SpBoth), asks(ask2, ask3), ack(o), gone(ask1, 5), gone(o, 10))
	o = by(2, 9, 101, 10)
	wantExec(t, "own in the middle", matchBook(), buy(impl.CkLimit, o, impl.SpNew), asks(ask2, ask3), ack(o), fill(o, ask1, 5), gone(o, 5))
	want = impl.Book{Bids: []impl.Order{left(o, 5), bid4}, Asks: []impl.Order{ask3}}
	wantExec(t, "own in the middle", matchBook(), buy(impl.CkLimit, o, impl.SpOld), want, ack(o), fill(o, ask1, 5), gone(ask2, 3))
	wantExec(t, "own in the middle", matchBook(), buy(impl.CkLimit, o, impl.SpBoth), asks(ask3), ack(o), fill(o, ask1, 5), gone(ask2, 3), gone(o, 5))
	o = by(3, 9, 103, 10)
	wantExec(t, "own last", matchBook(), buy(impl.CkLimit, o, impl.SpNew), asks(ask3), ack(o), fill(o, ask1, 5), fill(o, ask2, 3), gone(o, 2))
	want = impl.Book{Bids: []impl.Order{left(o, 2), bid4}}
	wantExec(t, "own last", matchBook(), buy(impl.CkLimit, o, impl.SpOld), want, ack(o), fill(o, ask1, 5), fill(o, ask2, 3), gone(ask3, 4))
	wantExec(t, "own last", matchBook(), buy(impl.CkLimit, o, impl.SpBoth), asks(), ack(o), fill(o, ask1, 5), fill(o, ask2, 3), gone(ask3, 4), gone(o, 2))
}

func TestLimitOnAFullSide(t *testing.T) {
	full := fullBids()
	for mode := int64(impl.SpNew); mode <= impl.SpBoth; mode++ {
		for _, price := range []int64{100, 90, 1} {
			o := by(90, 99, price, 7)
			wantExec(t, "met by nobody", full, buy(impl.CkLimit, o, mode), full, ack(o), gone(o, 7))
		}
		o := by(90, 99, 102, 10)
		want := impl.Book{Bids: full.Bids, Asks: []impl.Order{ask3}}
		wantExec(t, "partly filled", full, buy(impl.CkLimit, o, mode), want, ack(o), fill(o, ask1, 5), fill(o, ask2, 3), gone(o, 2))
		o = left(o, 8)
		wantExec(t, "filled exactly", full, buy(impl.CkLimit, o, mode), want, ack(o), fill(o, ask1, 5), fill(o, ask2, 3))
		nearly := bids(full.Bids[:19]...)
		o = by(90, 99, 101, 9)
		want = impl.Book{Bids: append([]impl.Order{left(o, 1)}, full.Bids[:19]...), Asks: []impl.Order{ask3}}
		wantExec(t, "the 20th order", nearly, buy(impl.CkLimit, o, mode), want, ack(o), fill(o, ask1, 5), fill(o, ask2, 3))
		o = by(90, 99, 82, 9)
		wantExec(t, "the 20th order, last", nearly, buy(impl.CkLimit, o, mode), bids(append(slices.Clone(full.Bids[:19]), o)...), ack(o))
		o.Price = 100
		wantExec(t, "the 20th order, posted", nearly, buy(impl.CkPost, o, mode), bids(slices.Insert(slices.Clone(full.Bids[:19]), 1, o)...), ack(o))
	}
	own := left(ask1, 5)
	own.Acct = 90
	o := by(90, 99, 101, 9)
	b := impl.Book{Bids: full.Bids, Asks: []impl.Order{own, ask2}}
	wantExec(t, "its own order was removed on the other side", b, buy(impl.CkLimit, o, impl.SpOld), impl.Book{Bids: full.Bids}, ack(o), gone(own, 5), fill(o, ask2, 3), gone(o, 6))
}

// Each of these commands makes room for one more order on a full side.
func TestRoomOnAFullSide(t *testing.T) {
	full := fullBids()
	first, second, last := full.Bids[0], full.Bids[1], full.Bids[19]
	for name, c := range map[string]impl.Cmd{
		"a fill of the first":           sell(impl.CkIoc, by(90, 98, 100, first.Qty), impl.SpNew),
		"a fill of more":                sell(impl.CkIoc, by(90, 98, 99, first.Qty+second.Qty-1), impl.SpNew),
		"a prevented self-trade":        sell(impl.CkIoc, by(first.Acct, 98, 100, 1), impl.SpOld),
		"a cancellation of the first":   cancel(first.Acct, first.Id),
		"a cancellation of the last":    cancel(last.Acct, last.Id),
		"a replacement that was filled": replace(by(second.Acct, second.Id, 101, 5), impl.SpNew),
	} {
		b, _ := impl.Exec(full, c)
		if len(b.Bids) != 19 {
			t.Fatalf("%s: %v", name, b)
		}
		o := by(91, 99, 50, 4)
		want := impl.Book{Bids: append(slices.Clone(b.Bids), o), Asks: b.Asks}
		wantExec(t, name+", then a limit order", b, buy(impl.CkLimit, o, impl.SpNew), want, ack(o))
		wantExec(t, name+", then a posted order", b, buy(impl.CkPost, o, impl.SpNew), want, ack(o))
		o2 := by(91, 100, 50, 4)
		wantExec(t, name+", full again", want, buy(impl.CkLimit, o2, impl.SpNew), want, ack(o2), gone(o2, 4))
		wantRefused(t, name+", full again", want, buy(impl.CkPost, o2, impl.SpNew), impl.RcRoom)
	}
	b, _ := impl.Exec(full, sell(impl.CkIoc, by(90, 98, 100, first.Qty-1), impl.SpNew))
	wantRefused(t, "the first is filled but for one", b, buy(impl.CkPost, by(91, 99, 50, 4), impl.SpNew), impl.RcRoom)
	b, _ = impl.CancelAll(full, last.Acct)
	o := by(91, 99, 50, 4)
	wantExec(t, "all of an account are cancelled", b, buy(impl.CkPost, o, impl.SpNew), bids(append(slices.Clone(full.Bids[:19]), o)...), ack(o))
}

func TestImmediateOrCancel(t *testing.T) {
	for mode := int64(impl.SpNew); mode <= impl.SpBoth; mode++ {
		o := by(4, 9, 100, 6)
		wantExec(t, "met by nobody", matchBook(), buy(impl.CkIoc, o, mode), matchBook(), ack(o), gone(o, 6))
		wantExec(t, "an empty book", impl.Book{}, buy(impl.CkIoc, o, mode), impl.Book{}, ack(o), gone(o, 6))
		o = by(4, 9, 101, 6)
		wantExec(t, "filled", matchBook(), buy(impl.CkIoc, o, mode), asks(left(ask2, 2), ask3), ack(o), fill(o, ask1, 5), fill(o, ask2, 1))
		o = left(o, 8)
		wantExec(t, "filled exactly", matchBook(), buy(impl.CkIoc, o, mode), asks(ask3), ack(o), fill(o, ask1, 5), fill(o, ask2, 3))
		o = left(o, 9)
		wantExec(t, "one is left", matchBook(), buy(impl.CkIoc, o, mode), asks(ask3), ack(o), fill(o, ask1, 5), fill(o, ask2, 3), gone(o, 1))
	}
	o := by(2, 9, 101, 9)
	wantExec(t, "own", matchBook(), buy(impl.CkIoc, o, impl.SpNew), asks(ask2, ask3), ack(o), fill(o, ask1, 5), gone(o, 4))
	wantExec(t, "own", matchBook(), buy(impl.CkIoc, o, impl.SpOld), asks(ask3), ack(o), fill(o, ask1, 5), gone(ask2, 3), gone(o, 4))
	wantExec(t, "own", matchBook(), buy(impl.CkIoc, o, impl.SpBoth), asks(ask3), ack(o), fill(o, ask1, 5), gone(ask2, 3), gone(o, 4))
}

func TestMarketOrders(t *testing.T) {
	for mode := int64(impl.SpNew); mode <= impl.SpBoth; mode++ {
		o := by(4, 9, 0, 6)
		wantExec(t, "an empty book", impl.Book{}, buy(impl.CkMarket, o, mode), impl.Book{}, ack(o), gone(o, 6))
		wantExec(t, "an empty side", asks(), buy(impl.CkMarket, o, mode), asks(), ack(o), gone(o, 6))
		wantExec(t, "filled", matchBook(), buy(impl.CkMarket, o, mode), asks(left(ask2, 2), ask3), ack(o), fill(o, ask1, 5), fill(o, ask2, 1))
		for qty := int64(12); qty <= 14; qty++ {
			o = left(o, qty)
			recs := []impl.Rec{ack(o), fill(o, ask1, 5), fill(o, ask2, 3), fill(o, ask3, 4)}
			if qty > 12 {
				recs = append(recs, gone(o, qty-12))
			}
			wantExec(t, "all", matchBook(), buy(impl.CkMarket, o, mode), asks(), recs...)
		}
	}
	o := by(1, 9, 0, 9)
	wantExec(t, "own", matchBook(), buy(impl.CkMarket, o, impl.SpNew), matchBook(), ack(o), gone(o, 9))
	wantExec(t, "own", matchBook(), buy(impl.CkMarket, o, impl.SpOld), asks(), ack(o), gone(ask1, 5), fill(o, ask2, 3), fill(o, ask3, 4), gone(o, 2))
	wantExec(t, "own", matchBook(), buy(impl.CkMarket, o, impl.SpBoth), asks(ask2, ask3), ack(o), gone(ask1, 5), gone(o, 9))
}

// levelBook has three bids of one price between two others.
func levelBook() impl.Book {
	return bids(by(5, 11, 99, 3), by(6, 12, 98, 5), by(5, 13, 98, 6), by(5, 14, 98, 7), by(7, 15, 97, 2))
}

func bidsWith(b impl.Book, at int, o impl.Order) impl.Book {
	l := slices.Clone(b.Bids)
	l[at] = o
	return impl.Book{Bids: l, Asks: b.Asks}
}

func bidMoved(b impl.Book, from int, to int, o impl.Order) impl.Book {
	l := slices.Delete(slices.Clone(b.Bids), from, from+1)
	return impl.Book{Bids: slices.Insert(l, to, o), Asks: b.Asks}
}

func TestReplaceThatReduces(t *testing.T) {
	b := levelBook()
	for mode := int64(impl.SpNew); mode <= impl.SpBoth; mode++ {
		for at, old := range b.Bids {
			for qty := int64(1); qty <= old.Qty; qty++ {
				o := left(old, qty)
				wantExec(t, "keeps its position", b, replace(o, mode), bidsWith(b, at, o), gone(old, old.Qty), ack(o))
			}
		}
	}
	full := fullBids()
	for at, old := range full.Bids {
		o := left(old, 1)
		wantExec(t, "on a full side", full, replace(o, impl.SpNew), bidsWith(full, at, o), gone(old, old.Qty), ack(o))
	}
	big := by(100, 1000000000, 1000000, 1000000)
	wantExec(t, "greatest values", impl.Book{Bids: []impl.Order{big}}, replace(big, impl.SpNew), impl.Book{Bids: []impl.Order{big}}, gone(big, 1000000), ack(big))
}

func TestReplaceThatEntersAgain(t *testing.T) {
	b := levelBook()
	for mode := int64(impl.SpNew); mode <= impl.SpBoth; mode++ {
		for _, x := range []struct {
			at, price, qty, to int
		}{
			{1, 98, 6, 3}, {2, 98, 7, 3}, {3, 98, 8, 3}, {2, 98, 1000000, 3}, // a greater quantity
			{0, 99, 4, 0}, {4, 97, 3, 4},
			{2, 99, 6, 1}, {2, 99, 1, 1}, {2, 99, 60, 1}, {2, 100, 6, 0}, {4, 98, 1, 4}, // a better price
			{2, 97, 6, 4}, {2, 97, 1, 4}, {2, 96, 6, 4}, {2, 1, 70, 4}, {0, 98, 3, 3}, // a worse one
		} {
			old := b.Bids[x.at]
			o := by(old.Acct, old.Id, int64(x.price), int64(x.qty))
			wantExec(t, "enters again", b, replace(o, mode), bidMoved(b, x.at, x.to, o), gone(old, old.Qty), ack(o))
		}
	}
	full := fullBids()
	old := full.Bids[7]
	for _, x := range []struct{ price, to int }{{93, 7}, {94, 7}, {92, 8}, {100, 1}, {81, 19}, {80, 19}} {
		o := by(old.Acct, old.Id, int64(x.price), old.Qty+1)
		wantExec(t, "on a full side", full, replace(o, impl.SpNew), bidMoved(full, 7, x.to, o), gone(old, old.Qty), ack(o))
	}
}

func TestReplaceThatMeetsTheOtherSide(t *testing.T) {
	o := by(3, 4, 101, 9)
	was := gone(bid4, 2)
	for mode := int64(impl.SpNew); mode <= impl.SpBoth; mode++ {
		wantExec(t, "partly filled", matchBook(), replace(o, mode), impl.Book{Bids: []impl.Order{left(o, 1)}, Asks: []impl.Order{ask3}}, was, ack(o), fill(o, ask1, 5), fill(o, ask2, 3))
		x := left(o, 8)
		wantExec(t, "filled exactly", matchBook(), replace(x, mode), impl.Book{Asks: []impl.Order{ask3}}, was, ack(x), fill(x, ask1, 5), fill(x, ask2, 3))
		x = left(o, 1)
		wantExec(t, "filled, with less", matchBook(), replace(x, mode), impl.Book{Asks: []impl.Order{left(ask1, 4), ask2, ask3}}, was, ack(x), fill(x, ask1, 1))
		full := fullBids()
		old := full.Bids[19]
		x = by(old.Acct, old.Id, 102, 10)
		want := impl.Book{Bids: append([]impl.Order{left(x, 2)}, full.Bids[:19]...), Asks: []impl.Order{ask3}}
		wantExec(t, "from a full side", full, replace(x, mode), want, gone(old, old.Qty), ack(x), fill(x, ask1, 5), fill(x, ask2, 3))
	}
	o.Price = 103
	wantExec(t, "own last", matchBook(), replace(o, impl.SpNew), impl.Book{Asks: []impl.Order{ask3}}, was, ack(o), fill(o, ask1, 5), fill(o, ask2, 3), gone(o, 1))
	wantExec(t, "own last", matchBook(), replace(o, impl.SpOld), impl.Book{Bids: []impl.Order{left(o, 1)}}, was, ack(o), fill(o, ask1, 5), fill(o, ask2, 3), gone(ask3, 4))
	wantExec(t, "own last", matchBook(), replace(o, impl.SpBoth), impl.Book{}, was, ack(o), fill(o, ask1, 5), fill(o, ask2, 3), gone(ask3, 4), gone(o, 1))
	own := ask1
	own.Acct = 3
	b := asks(own, ask2)
	o = by(3, 4, 101, 6)
	wantExec(t, "own first", b, replace(o, impl.SpNew), impl.Book{Asks: b.Asks}, was, ack(o), gone(o, 6))
	wantExec(t, "own first", b, replace(o, impl.SpOld), impl.Book{Bids: []impl.Order{left(o, 3)}}, was, ack(o), gone(own, 5), fill(o, ask2, 3))
	wantExec(t, "own first", b, replace(o, impl.SpBoth), impl.Book{Asks: []impl.Order{ask2}}, was, ack(o), gone(own, 5), gone(o, 6))
}

// A reduced order is filled before those that came after it, and no further than its new quantity.
func TestAReducedOrderKeepsItsTurn(t *testing.T) {
	first, second := by(5, 1, 101, 9), by(6, 2, 101, 9)
	b, _ := impl.Exec(asks(first, second), replace(left(first, 2), impl.SpNew))
	o := by(4, 9, 101, 3)
	wantExec(t, "reduced", b, buy(impl.CkIoc, o, impl.SpNew), asks(left(second, 8)), ack(o), fill(o, first, 2), fill(o, second, 1))
	b, _ = impl.Exec(asks(first, second), replace(left(first, 10), impl.SpNew))
	wantExec(t, "increased", b, buy(impl.CkIoc, o, impl.SpNew), asks(left(second, 6), left(first, 10)), ack(o), fill(o, second, 3))
}

func TestExecExamples(t *testing.T) {
	b := matchBook()
	wantRefused(t, "limit", b, buy(impl.CkLimit, by(4, 1, 50, 1), impl.SpNew), impl.RcTwice)
	wantRefused(t, "fok", b, buy(impl.CkFok, by(4, 9, 101, 9), impl.SpNew), impl.RcFill)
	wantRefused(t, "post", b, buy(impl.CkPost, by(4, 9, 101, 9), impl.SpNew), impl.RcCross)
	o := by(4, 9, 100, 9)
	wantExec(t, "post", b, buy(impl.CkPost, o, impl.SpNew), bids(o, bid4), ack(o))
	x := by(4, 10, 101, 6)
	want := impl.Book{Bids: []impl.Order{o, bid4}, Asks: []impl.Order{left(ask2, 2), ask3}}
	wantExec(t, "ioc", bids(o, bid4), buy(impl.CkIoc, x, impl.SpNew), want, ack(x), fill(x, ask1, 5), fill(x, ask2, 1))
}

// randomCmd returns a command, now and then an invalid one, of which the orders in a book are likely to be the object.
func randomCmd(d *dice, spread int64) impl.Cmd {
	c := impl.Cmd{Kind: 1 + d.roll(7), Sym: d.roll(4), Acct: 1 + d.roll(3), Id: 1 + d.roll(60)}
	if c.Kind < impl.CkCancel {
		c.Side = 1 + d.roll(2)
	}
	if c.Kind != impl.CkCancel {
		c.Qty, c.Mode, c.Price = 1+d.roll(12), 1+d.roll(3), 100+d.roll(6)-spread*c.Side
	}
	if c.Side == 2 {
		c.Price += 3 * spread
	}
	if c.Kind == impl.CkMarket {
		c.Price = 0
	}
	if d.roll(40) == 0 {
		*cmdFields()[d.roll(7)].at(&c) = 5 * d.roll(300)
	}
	if d.roll(4) > 0 && c.Kind != impl.CkCancel && c.Kind != impl.CkMarket && c.Kind != impl.CkRepl {
		c.Kind = impl.CkLimit
	}
	return c
}

func TestExecRandomly(t *testing.T) {
	seen := map[int64]int{}
	fullSides := 0
	for seed := range int64(60) {
		d := dice(100 + seed)
		b := impl.Book{}
		spread := seed % 4
		for range 150 {
			c := randomCmd(&d, spread)
			m := marketOf(b)
			recs := m.exec(c)
			x := execCase{"random", b, c, m.book(), recs}
			sameExec(t, x)
			wantBalance(t, x)
			if recs[0].Kind == impl.RkReject {
				seen[recs[0].Other]++
			}
			if b, _ = impl.Exec(b, c); len(b.Bids) == 20 || len(b.Asks) == 20 {
				fullSides++
			}
		}
	}
	for _, code := range []int64{impl.RcForm, impl.RcTwice, impl.RcNone, impl.RcCross, impl.RcFill, impl.RcRoom} {
		if seen[code] == 0 {
			t.Errorf("no command was rejected with %d", code)
		}
	}
	if fullSides == 0 {
		t.Error("no side was full")
	}
}

func rests(b impl.Book, id int64) int64 {
	for _, o := range append(slices.Clone(b.Bids), b.Asks...) {
		if o.Id == id {
			return o.Qty
		}
	}
	return 0
}

// wantBalance checks promise 4, and that of each order what was there and what was acknowledged is filled, cancelled or
// rests.
func wantBalance(t *testing.T, x execCase) {
	t.Helper()
	n, recs := impl.Exec(x.book, x.c)
	change := map[int64]int64{}
	for _, r := range recs {
		switch r.Kind {
		case impl.RkAck:
			change[r.Id] += r.Qty
		case impl.RkFill:
			change[r.Id] -= r.Qty
			change[r.Other] -= r.Qty
		case impl.RkCancel:
			change[r.Id] -= r.Qty
		case impl.RkReject:
			if len(recs) != 1 || !sameBook(n, x.book) {
				t.Errorf("%+v is rejected with %v, and %v becomes %v", x.c, recs, x.book, n)
			}
		}
	}
	for id := range int64(61) {
		if rests(x.book, id)+change[id] != rests(n, id) {
			t.Errorf("%+v: order %d of %v is %v, by %v", x.c, id, x.book, n, recs)
		}
	}
	if x.c.Kind == impl.CkFok && recs[0].Kind == impl.RkAck && impl.Filled(recs, x.c.Id) != x.c.Qty {
		t.Errorf("%+v yields %v", x.c, recs)
	}
}

func TestCancelAll(t *testing.T) {
	b := matchBook()
	for _, x := range []struct {
		acct int64
		want impl.Book
		recs []impl.Rec
	}{
		{3, impl.Book{Asks: []impl.Order{ask1, ask2}}, []impl.Rec{gone(bid4, 2), gone(ask3, 4)}},
		{1, asks(ask2, ask3), []impl.Rec{gone(ask1, 5)}},
		{2, asks(ask1, ask3), []impl.Rec{gone(ask2, 3)}},
	} {
		if n, l := impl.CancelAll(b, x.acct); !sameBook(n, x.want) || !slices.Equal(l, x.recs) {
			t.Errorf("account %d: %v %v", x.acct, n, l)
		}
	}
	for _, acct := range append(outside(1, 100), 4, 50, 100) {
		if n, l := impl.CancelAll(b, acct); !sameBook(n, b) || len(l) != 0 {
			t.Errorf("account %d, which has no orders: %v %v", acct, n, l)
		}
	}
	for _, acct := range []int64{1, 100, 0, math.MinInt64} {
		if n, l := impl.CancelAll(impl.Book{}, acct); !sameBook(n, impl.Book{}) || len(l) != 0 {
			t.Errorf("account %d of an empty book: %v %v", acct, n, l)
		}
	}
}

func TestCancelAllOfFullSides(t *testing.T) {
	full := impl.Book{Bids: run(1, 20, 100, 0), Asks: run(21, 20, 101, 1)}
	for _, own := range []func(i int) bool{
		func(i int) bool { return true },
		func(i int) bool { return i%2 == 0 },
		func(i int) bool { return i%2 == 1 },
		func(i int) bool { return i < 20 },
		func(i int) bool { return i >= 20 },
		func(i int) bool { return i == 0 || i == 19 || i == 39 },
	} {
		b, want, recs := copyBook(full), impl.Book{}, []impl.Rec(nil)
		for i := range 40 {
			l, keep := &b.Bids, &want.Bids
			if i >= 20 {
				l, keep = &b.Asks, &want.Asks
			}
			o := &(*l)[i%20]
			if own(i) {
				o.Acct = 99
				recs = append(recs, gone(*o, o.Qty))
			} else {
				*keep = append(*keep, *o)
			}
		}
		if n, l := impl.CancelAll(b, 99); !sameBook(n, want) || !slices.Equal(l, recs) {
			t.Errorf("%v %v, want %v %v", n, l, want, recs)
		}
	}
}

func TestExecLeavesItsArgument(t *testing.T) {
	d := dice(31)
	for range 1500 {
		b := randomBook(&d, 3, 6)
		c := randomCmd(&d, 0)
		c.Id = 1 + d.roll(30)
		wantUntouched(t, "Exec", b, func(b impl.Book) impl.Book {
			n, recs := impl.Exec(b, c)
			clear(recs[:cap(recs)])
			return n
		})
		wantUntouched(t, "CancelAll", b, func(b impl.Book) impl.Book {
			n, recs := impl.CancelAll(b, c.Acct)
			clear(recs[:cap(recs)])
			return n
		})
	}
	b := levelBook()
	for _, o := range []impl.Order{left(b.Bids[2], 1), left(b.Bids[2], 6), left(b.Bids[2], 9), by(5, 13, 101, 9), by(5, 13, 97, 1)} {
		wantUntouched(t, "replacement", b, func(b impl.Book) impl.Book {
			n, _ := impl.Exec(b, replace(o, impl.SpOld))
			return n
		})
	}
}

func TestEqualArgumentsYieldEqualExecutions(t *testing.T) {
	d := dice(32)
	for range 300 {
		b, c := randomBook(&d, 3, 8), randomCmd(&d, 0)
		n, l := impl.Exec(b, c)
		impl.Exec(randomBook(&d, 3, 8), randomCmd(&d, 0))
		impl.CancelAll(b, 1)
		if again, recs := impl.Exec(copyBook(b), c); !sameBook(n, again) || !slices.Equal(l, recs) {
			t.Errorf("%+v on %v: first %v %v, then %v %v", c, b, n, l, again, recs)
		}
	}
}
