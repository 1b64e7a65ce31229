package tests

import (
	"math"
	"slices"
	"testing"

	"loop.example/g00609/impl"
)

func by(acct int64, id int64, price int64, qty int64) impl.Order {
	return impl.Order{Id: id, Acct: acct, Price: price, Qty: qty}
}

// The orders of the book of the examples of chapter 3.
var (
	bid4 = by(3, 4, 99, 2)
	ask1 = by(1, 1, 101, 5)
	ask2 = by(2, 2, 101, 3)
	ask3 = by(3, 3, 103, 4)
)

func asks(l ...impl.Order) impl.Book {
	return impl.Book{Bids: []impl.Order{bid4}, Asks: l}
}

func matchBook() impl.Book {
	return asks(ask1, ask2, ask3)
}

func left(o impl.Order, qty int64) impl.Order {
	o.Qty = qty
	return o
}

// A matchCase is what an order to buy does to a book.
type matchCase struct {
	name string
	book impl.Book
	o    impl.Order
	mode int64
	want impl.Book
	recs []impl.Rec
	left int64
}

func sameMatch(t *testing.T, c matchCase, side int64) {
	t.Helper()
	b, recs, n, ok := impl.Matched(c.book, side, c.o, c.mode)
	if !ok || n != c.left || !slices.Equal(recs, c.recs) || !sameBook(b, c.want) {
		t.Errorf("%s, side %d, mode %d: order %v against %v\nis  %v %v %d %v\nnot %v %v %d", c.name, side, c.mode, c.o, c.book, b, recs, n, ok, c.want, c.recs, c.left)
	}
	if !impl.BookOk(b) {
		t.Errorf("%s, side %d, mode %d: the book is not valid: %v", c.name, side, c.mode, b)
	}
	if can := impl.CanFill(c.book, side, c.o, c.mode); can != (traded(c.recs) == c.o.Qty) {
		t.Errorf("%s, side %d, mode %d: CanFill is %v", c.name, side, c.mode, can)
	}
}

func mirroredMatch(c matchCase) matchCase {
	c.book, c.want, c.recs = mirroredBook(c.book), mirroredBook(c.want), mirroredRecs(c.recs)
	c.o.Price = mirroredPrice(c.o.Price)
	return c
}

// wantMatches checks the cases of buyers, and the same ones of sellers.
func wantMatches(t *testing.T, cases []matchCase) {
	t.Helper()
	for _, c := range cases {
		sameMatch(t, c, impl.SdBuy)
		sameMatch(t, mirroredMatch(c), impl.SdSell)
	}
}

func TestMatchedFills(t *testing.T) {
	var cases []matchCase
	add := func(name string, o impl.Order, want impl.Book, n int64, recs ...impl.Rec) {
		for mode := int64(impl.SpNew); mode <= impl.SpBoth; mode++ {
			cases = append(cases, matchCase{name, matchBook(), o, mode, want, recs, n})
		}
	}
	o := by(4, 9, 102, 10)
	add("example", o, asks(ask3), 2, fill(o, ask1, 5), fill(o, ask2, 3))
	o = by(4, 9, 100, 10)
	add("a limit of one less than the price", o, matchBook(), 10)
	o = by(4, 9, 1, 10)
	add("the least limit", o, matchBook(), 10)
	o = by(4, 9, 101, 1)
	add("a limit that equals the price", o, asks(left(ask1, 4), ask2, ask3), 0, fill(o, ask1, 1))
	o = by(4, 9, 101, 4)
	add("all but one", o, asks(left(ask1, 1), ask2, ask3), 0, fill(o, ask1, 4))
	o = by(4, 9, 101, 5)
	add("a resting order filled exactly", o, asks(ask2, ask3), 0, fill(o, ask1, 5))
	o = by(4, 9, 101, 6)
	add("one more", o, asks(left(ask2, 2), ask3), 0, fill(o, ask1, 5), fill(o, ask2, 1))
	o = by(4, 9, 102, 8)
	add("a price filled exactly", o, asks(ask3), 0, fill(o, ask1, 5), fill(o, ask2, 3))
	o = by(4, 9, 101, 9)
	add("one more than a price has", o, asks(ask3), 1, fill(o, ask1, 5), fill(o, ask2, 3))
	o = by(4, 9, 103, 9)
	add("two prices", o, asks(left(ask3, 3)), 0, fill(o, ask1, 5), fill(o, ask2, 3), fill(o, ask3, 1))
	for _, price := range []int64{0, 103, 1000000} {
		o = by(4, 9, price, 12)
		all := []impl.Rec{fill(o, ask1, 5), fill(o, ask2, 3), fill(o, ask3, 4)}
		add("a side filled exactly", o, asks(), 0, all...)
		add("one more than a side has", left(o, 13), asks(), 1, all...)
		add("much more than a side has", left(o, 1000000), asks(), 999988, all...)
	}
	o = by(4, 9, 0, 5)
	add("no limit, one order", o, asks(ask2, ask3), 0, fill(o, ask1, 5))
	wantMatches(t, cases)
}

func TestMatchedOnOtherBooks(t *testing.T) {
	var cases []matchCase
	for mode := int64(impl.SpNew); mode <= impl.SpBoth; mode++ {
		o := by(4, 9, 0, 3)
		cases = append(cases, matchCase{"an empty book", impl.Book{}, o, mode, impl.Book{}, nil, 3})
		cases = append(cases, matchCase{"an empty side", asks(), o, mode, asks(), nil, 3})
		big := by(100, 1000000000, 1000000, 1000000)
		o = by(99, 1, 1000000, 1000000)
		one := impl.Book{Asks: []impl.Order{big}}
		cases = append(cases, matchCase{"greatest values", one, o, mode, impl.Book{}, []impl.Rec{fill(o, big, 1000000)}, 0})
		cases = append(cases, matchCase{"greatest and least", one, left(o, 1), mode, impl.Book{Asks: []impl.Order{left(big, 999999)}}, []impl.Rec{fill(o, big, 1)}, 0})
		full := impl.Book{Bids: run(1, 20, 100, -1), Asks: run(21, 20, 101, 1)}
		o = by(90, 99, 0, 1000)
		var all []impl.Rec
		for _, x := range full.Asks {
			all = append(all, fill(o, x, x.Qty))
		}
		cases = append(cases, matchCase{"a full side", full, o, mode, impl.Book{Bids: full.Bids}, all, 1000 - traded(all)})
		cases = append(cases, matchCase{"a full side but the last order", full, by(90, 99, 119, traded(all)), mode, impl.Book{Bids: full.Bids, Asks: full.Asks[19:]}, all[:19], full.Asks[19].Qty})
	}
	wantMatches(t, cases)
}

func TestMatchedPreventsSelfTradeOfTheFirst(t *testing.T) {
	o := by(1, 9, 102, 10)
	wantMatches(t, []matchCase{
		{"own first", matchBook(), o, impl.SpNew, matchBook(), []impl.Rec{gone(o, 10)}, 0},
		{"own first", matchBook(), o, impl.SpOld, asks(ask3), []impl.Rec{gone(ask1, 5), fill(o, ask2, 3)}, 7},
		{"own first", matchBook(), o, impl.SpBoth, asks(ask2, ask3), []impl.Rec{gone(ask1, 5), gone(o, 10)}, 0},
	})
	o = by(1, 9, 0, 3)
	wantMatches(t, []matchCase{
		{"own first, no limit", matchBook(), o, impl.SpNew, matchBook(), []impl.Rec{gone(o, 3)}, 0},
		{"own first, no limit", matchBook(), o, impl.SpOld, asks(ask3), []impl.Rec{gone(ask1, 5), fill(o, ask2, 3)}, 0},
		{"own first, no limit", matchBook(), o, impl.SpBoth, asks(ask2, ask3), []impl.Rec{gone(ask1, 5), gone(o, 3)}, 0},
	})
}

func TestMatchedPreventsSelfTradeInTheMiddle(t *testing.T) {
	o := by(2, 9, 0, 10)
	wantMatches(t, []matchCase{
		{"own in the middle", matchBook(), o, impl.SpNew, asks(ask2, ask3), []impl.Rec{fill(o, ask1, 5), gone(o, 5)}, 0},
		{"own in the middle", matchBook(), o, impl.SpOld, asks(), []impl.Rec{fill(o, ask1, 5), gone(ask2, 3), fill(o, ask3, 4)}, 1},
		{"own in the middle", matchBook(), o, impl.SpBoth, asks(ask3), []impl.Rec{fill(o, ask1, 5), gone(ask2, 3), gone(o, 5)}, 0},
	})
	o = by(2, 9, 101, 6)
	wantMatches(t, []matchCase{
		{"own, with 1 left", matchBook(), o, impl.SpNew, asks(ask2, ask3), []impl.Rec{fill(o, ask1, 5), gone(o, 1)}, 0},
		{"own, with 1 left", matchBook(), o, impl.SpOld, asks(ask3), []impl.Rec{fill(o, ask1, 5), gone(ask2, 3)}, 1},
		{"own, with 1 left", matchBook(), o, impl.SpBoth, asks(ask3), []impl.Rec{fill(o, ask1, 5), gone(ask2, 3), gone(o, 1)}, 0},
	})
}

func TestMatchedPreventsSelfTradeOfTheLast(t *testing.T) {
	o := by(3, 9, 103, 10)
	fills := []impl.Rec{fill(o, ask1, 5), fill(o, ask2, 3)}
	wantMatches(t, []matchCase{
		{"own last", matchBook(), o, impl.SpNew, asks(ask3), append(slices.Clone(fills), gone(o, 2)), 0},
		{"own last", matchBook(), o, impl.SpOld, asks(), append(slices.Clone(fills), gone(ask3, 4)), 2},
		{"own last", matchBook(), o, impl.SpBoth, asks(), append(slices.Clone(fills), gone(ask3, 4), gone(o, 2)), 0},
	})
}

func TestMatchedIgnoresOwnOrdersThatItDoesNotReach(t *testing.T) {
	var cases []matchCase
	for mode := int64(impl.SpNew); mode <= impl.SpBoth; mode++ {
		o := by(2, 9, 101, 5)
		cases = append(cases, matchCase{"filled before it", matchBook(), o, mode, asks(ask2, ask3), []impl.Rec{fill(o, ask1, 5)}, 0})
		o = by(3, 9, 102, 9)
		cases = append(cases, matchCase{"behind the limit", matchBook(), o, mode, asks(ask3), []impl.Rec{fill(o, ask1, 5), fill(o, ask2, 3)}, 1})
		o = by(1, 9, 100, 9)
		cases = append(cases, matchCase{"first, behind the limit", matchBook(), o, mode, matchBook(), nil, 9})
		own := impl.Book{Bids: []impl.Order{by(8, 1, 100, 1)}, Asks: []impl.Order{by(7, 2, 101, 1)}}
		o = by(8, 9, 101, 1)
		cases = append(cases, matchCase{"on its own side", own, o, mode, impl.Book{Bids: own.Bids}, []impl.Rec{fill(o, own.Asks[0], 1)}, 0})
	}
	wantMatches(t, cases)
}

func TestMatchedWithSeveralOwnOrders(t *testing.T) {
	x, y, z := by(7, 1, 101, 5), by(7, 2, 101, 3), by(7, 3, 103, 4)
	b := asks(x, y, z)
	o := by(7, 9, 0, 10)
	wantMatches(t, []matchCase{
		{"all are own", b, o, impl.SpNew, b, []impl.Rec{gone(o, 10)}, 0},
		{"all are own", b, o, impl.SpOld, asks(), []impl.Rec{gone(x, 5), gone(y, 3), gone(z, 4)}, 10},
		{"all are own", b, o, impl.SpBoth, asks(y, z), []impl.Rec{gone(x, 5), gone(o, 10)}, 0},
	})
	y.Acct = 6
	b = asks(x, y, z)
	wantMatches(t, []matchCase{
		{"two are own", b, o, impl.SpNew, b, []impl.Rec{gone(o, 10)}, 0},
		{"two are own", b, o, impl.SpOld, asks(), []impl.Rec{gone(x, 5), fill(o, y, 3), gone(z, 4)}, 7},
		{"two are own", b, o, impl.SpBoth, asks(y, z), []impl.Rec{gone(x, 5), gone(o, 10)}, 0},
	})
	o = by(7, 9, 102, 3)
	wantMatches(t, []matchCase{{"filled behind an own order", b, o, impl.SpOld, asks(z), []impl.Rec{gone(x, 5), fill(o, y, 3)}, 0}})
}

func TestMatchedRandomly(t *testing.T) {
	d := dice(21)
	for range 4000 {
		b := randomBook(&d, 3, 7)
		side := 1 + d.roll(2)
		o := impl.Order{Id: 1000 + d.roll(9), Acct: 1 + d.roll(3), Price: 94 + d.roll(10), Qty: 1 + d.roll(25)}
		if d.roll(4) == 0 {
			o.Price = 0
		}
		c := matchCase{name: "random", book: b, o: o, mode: 1 + d.roll(3)}
		m := marketOf(b)
		c.recs, c.left = m.match(side, o, c.mode)
		c.want = m.book()
		sameMatch(t, c, side)
		wantNothingLost(t, c, side)
	}
}

// wantNothingLost checks promise 3 without a model of how orders are matched.
func wantNothingLost(t *testing.T, c matchCase, side int64) {
	t.Helper()
	n, recs, qty, _ := impl.Matched(c.book, side, c.o, c.mode)
	now := marketOf(n)
	spent := qty
	change := map[int64]int64{}
	for _, r := range recs {
		switch {
		case r.Kind == impl.RkFill && r.Id == c.o.Id:
			_, resting, ok := impl.Find(c.book, r.Other)
			if !ok || resting.Price != r.Price || resting.Acct == c.o.Acct || r.Qty < 1 {
				t.Errorf("%v of %v against %v", r, c.o, c.book)
			}
			spent += r.Qty
			change[r.Other] += r.Qty
		case r.Kind == impl.RkCancel && r.Id == c.o.Id:
			spent += r.Qty
		case r.Kind == impl.RkCancel:
			change[r.Id] += r.Qty
		default:
			t.Errorf("%v of %v against %v", r, c.o, c.book)
		}
	}
	if spent != c.o.Qty {
		t.Errorf("%d of the %d of %v are filled, cancelled and left", spent, c.o.Qty, c.o)
	}
	for _, x := range marketOf(c.book).orders {
		rests := int64(0)
		if at := now.at(x.Id); at >= 0 {
			rests = now.orders[at].Qty
		}
		if rests+change[x.Id] != x.Qty {
			t.Errorf("order %v of %v: %d filled or cancelled, %d rests", x, c.book, change[x.Id], rests)
		}
	}
}

func wantNotMatched(t *testing.T, what string, b impl.Book, side int64, o impl.Order, mode int64) {
	t.Helper()
	n, recs, qty, ok := impl.Matched(b, side, o, mode)
	if ok || qty != 0 || len(recs) != 0 || !sameBook(n, impl.Book{}) {
		t.Errorf("%s: Matched(%v, %d, %v, %d) is %v, %v, %d, %v", what, b, side, o, mode, n, recs, qty, ok)
	}
	if impl.CanFill(b, side, o, mode) {
		t.Errorf("%s: CanFill(%v, %d, %v, %d)", what, b, side, o, mode)
	}
}

// incomingFields: an incoming order may be without a limit.
func incomingFields() []field[impl.Order] {
	l := orderFields()
	for i := range l {
		if l[i].name == "Price" {
			l[i].low = 0
		}
	}
	return l
}

func TestMatchedRejects(t *testing.T) {
	o := by(4, 9, 101, 1)
	for name, b := range invalidBooks() {
		for side := int64(impl.SdBuy); side <= impl.SdSell; side++ {
			wantNotMatched(t, name, b, side, by(50, 999, 0, 1), impl.SpOld)
		}
	}
	for _, side := range outside(impl.SdBuy, impl.SdSell) {
		wantNotMatched(t, "side", matchBook(), side, o, impl.SpNew)
	}
	for _, mode := range outside(impl.SpNew, impl.SpBoth) {
		wantNotMatched(t, "mode", matchBook(), impl.SdBuy, o, mode)
		wantNotMatched(t, "mode", impl.Book{}, impl.SdSell, o, mode)
	}
	for id := int64(1); id <= 4; id++ {
		wantNotMatched(t, "an Id of the book", matchBook(), impl.SdBuy, by(4, id, 101, 1), impl.SpNew)
		wantNotMatched(t, "an Id of the book", matchBook(), impl.SdSell, by(4, id, 99, 1), impl.SpNew)
		wantNotMatched(t, "an Id of the book, met by nobody", matchBook(), impl.SdBuy, by(4, id, 90, 1), impl.SpNew)
	}
	for _, f := range incomingFields() {
		for _, n := range outside(f.low, f.high) {
			bad := o
			*f.at(&bad) = n
			wantNotMatched(t, f.name, matchBook(), impl.SdBuy, bad, impl.SpNew)
			wantNotMatched(t, f.name, matchBook(), impl.SdSell, bad, impl.SpOld)
			wantNotMatched(t, f.name, impl.Book{}, impl.SdBuy, bad, impl.SpBoth)
		}
	}
	wantNotMatched(t, "the zero order", matchBook(), impl.SdBuy, impl.Order{}, impl.SpNew)
}

func TestMatchedLimits(t *testing.T) {
	far := impl.Book{Bids: []impl.Order{by(50, 50, 1, 1)}, Asks: []impl.Order{by(51, 51, 1000000, 1)}}
	for _, f := range incomingFields() {
		for _, n := range []int64{f.low, f.high} {
			for side := int64(impl.SdBuy); side <= impl.SdSell; side++ {
				c := matchCase{name: f.name, book: far, o: by(4, 9, 500, 2), mode: impl.SpNew}
				*f.at(&c.o) = n
				m := marketOf(far)
				c.recs, c.left = m.match(side, c.o, c.mode)
				c.want = m.book()
				sameMatch(t, c, side)
			}
		}
	}
}

func TestCanFill(t *testing.T) {
	for _, x := range []struct{ acct, price, mode, most int64 }{
		{4, 100, impl.SpNew, 0}, {4, 101, impl.SpNew, 8}, {4, 102, impl.SpNew, 8}, {4, 103, impl.SpNew, 12}, {4, 0, impl.SpNew, 12},
		{4, 101, impl.SpOld, 8}, {4, 101, impl.SpBoth, 8}, {4, 0, impl.SpOld, 12}, {4, 0, impl.SpBoth, 12},
		{1, 0, impl.SpNew, 0}, {1, 0, impl.SpOld, 7}, {1, 101, impl.SpOld, 3}, {1, 0, impl.SpBoth, 0},
		{2, 0, impl.SpNew, 5}, {2, 0, impl.SpOld, 9}, {2, 101, impl.SpOld, 5}, {2, 0, impl.SpBoth, 5},
		{3, 0, impl.SpNew, 8}, {3, 0, impl.SpOld, 8}, {3, 0, impl.SpBoth, 8},
	} {
		for qty := int64(1); qty <= 20; qty++ {
			o := by(x.acct, 9, x.price, qty)
			if got := impl.CanFill(matchBook(), impl.SdBuy, o, x.mode); got != (qty <= x.most) {
				t.Errorf("to buy %v with mode %d: %v", o, x.mode, got)
			}
			o.Price = mirroredPrice(o.Price)
			if got := impl.CanFill(mirroredBook(matchBook()), impl.SdSell, o, x.mode); got != (qty <= x.most) {
				t.Errorf("to sell %v with mode %d: %v", o, x.mode, got)
			}
		}
	}
}

func TestFilledOfMatches(t *testing.T) {
	_, l, _, _ := impl.Matched(matchBook(), impl.SdBuy, by(4, 9, 102, 10), impl.SpNew)
	for id, want := range map[int64]int64{9: 8, 1: 5, 2: 3, 3: 0, 4: 0, 5: 0, 1000000000: 0, 1000000001: 0, -1: 0, math.MinInt64: 0} {
		if got := impl.Filled(l, id); got != want {
			t.Errorf("Filled(%d) is %d, want %d", id, got, want)
		}
	}
	_, l, _, _ = impl.Matched(matchBook(), impl.SdBuy, by(2, 9, 0, 10), impl.SpOld)
	for id, want := range map[int64]int64{9: 9, 1: 5, 2: 0, 3: 4} {
		if got := impl.Filled(l, id); got != want {
			t.Errorf("after a cancellation: Filled(%d) is %d, want %d", id, got, want)
		}
	}
}

func TestFilledCountsFillsOnly(t *testing.T) {
	var l []impl.Rec
	for kind := int64(1); kind <= 5; kind++ {
		l = append(l, impl.Rec{Kind: kind, Id: 7, Other: 8, Qty: 1 << kind})
	}
	l = append(l, impl.Rec{Stamp: 5, Kind: impl.RkFill, Sym: 3, Acct: 2, Id: 8, Other: 6, Price: 4, Qty: 100}, impl.Rec{Kind: impl.RkFill, Id: 5, Other: 5, Qty: 1000}, impl.Rec{Kind: impl.RkFill, Id: 4})
	for id, want := range map[int64]int64{7: 8, 8: 108, 6: 100, 5: 1000, 4: 0, 3: 0, 2: 0, 0: 0} {
		if got := impl.Filled(l, id); got != want {
			t.Errorf("Filled(%d) is %d, want %d", id, got, want)
		}
	}
	if impl.Filled(nil, 1) != 0 || impl.Filled([]impl.Rec{}, 0) != 0 {
		t.Error("no records")
	}
	many := slices.Repeat([]impl.Rec{{Kind: impl.RkFill, Id: 1, Other: 2, Qty: 1000000}}, 3000)
	if got := impl.Filled(many, 2); got != 3000000000 {
		t.Errorf("many records: %d", got)
	}
}

func TestFilledOfInvalidRecords(t *testing.T) {
	good := impl.Rec{Kind: impl.RkFill, Id: 1, Other: 2, Qty: 3}
	bad := []impl.Rec{{}, {Qty: 1}}
	for kind := int64(1); kind <= 5; kind++ {
		for _, f := range recFields() {
			for _, n := range outside(f.low, f.high) {
				r := impl.Rec{Kind: kind, Id: 1, Other: 2, Qty: 3}
				*f.at(&r) = n
				bad = append(bad, r)
			}
		}
	}
	for _, r := range bad {
		for _, l := range [][]impl.Rec{{r}, {r, good}, {good, r}, {good, r, good}} {
			for _, id := range []int64{0, 1, 2, 9} {
				if got := impl.Filled(l, id); got != -1 {
					t.Errorf("Filled(%v, %d) is %d", l, id, got)
				}
			}
		}
	}
}

func TestMatchedLeavesItsArgument(t *testing.T) {
	d := dice(22)
	for range 400 {
		b := randomBook(&d, 3, 6)
		side, mode := 1+d.roll(2), d.roll(4)
		o := impl.Order{Id: 900 + d.roll(2), Acct: 1 + d.roll(3), Price: d.roll(2) * (95 + d.roll(9)), Qty: 1 + d.roll(12)}
		wantUntouched(t, "Matched", b, func(b impl.Book) impl.Book {
			n, recs, _, _ := impl.Matched(b, side, o, mode)
			clear(recs[:cap(recs)])
			return n
		})
		wantUntouched(t, "CanFill", b, func(b impl.Book) impl.Book {
			impl.CanFill(b, side, o, mode)
			return impl.Book{}
		})
	}
	l := roomy(sampleRecs(9), impl.Rec{Kind: 3, Id: 1})
	before := slices.Clone(l[:cap(l)])
	impl.Filled(l, 1)
	if !slices.Equal(l[:cap(l)], before) {
		t.Error("Filled changed its argument")
	}
}

func TestEqualArgumentsYieldEqualMatches(t *testing.T) {
	b, o := matchBook(), by(2, 9, 0, 10)
	n, l, qty, _ := impl.Matched(b, impl.SdBuy, o, impl.SpOld)
	impl.Matched(b, impl.SdSell, by(5, 10, 0, 1), impl.SpBoth)
	n2, l2, qty2, _ := impl.Matched(copyBook(b), impl.SdBuy, o, impl.SpOld)
	if !sameBook(n, n2) || !slices.Equal(l, l2) || qty != qty2 {
		t.Errorf("first %v %v %d, then %v %v %d", n, l, qty, n2, l2, qty2)
	}
}
