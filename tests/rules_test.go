package tests

import (
	"math"
	"slices"
	"testing"

	"loop.example/g00609/impl"
)

// ruleCmds are the commands of the examples of chapter 6.
func ruleCmds() []impl.Cmd {
	return []impl.Cmd{
		buy(impl.CkLimit, by(1, 1, 100, 5), impl.SpNew),
		sell(impl.CkLimit, by(2, 2, 99, 3), impl.SpNew),
		replace(by(1, 1, 101, 4), impl.SpNew),
		sell(impl.CkLimit, by(3, 3, 101, 1), impl.SpNew),
		inBook(1, sell(impl.CkLimit, by(3, 3, 101, 1), impl.SpNew)),
	}
}

type position struct{ qty, money int64 }

func net(l []impl.Rec, orders []impl.Cmd, acct int64, sym int64) position {
	qty, money := impl.Net(l, orders, acct, sym)
	return position{qty, money}
}

func TestRuleExamples(t *testing.T) {
	l := ruleCmds()
	e, tape := impl.Fold(l)
	if s := impl.SumsOf(tape, 0, 1); s != (impl.Sums{Acked: 9, Filled: 4, Cancelled: 2}) {
		t.Errorf("SumsOf is %+v", s)
	}
	if n := impl.Resting(e, 0, 1); n != 3 {
		t.Errorf("Resting is %d", n)
	}
	if a, b := impl.Volume(tape, 0), impl.Volume(tape, 1); a != 4 || b != 0 {
		t.Errorf("Volume is %d and %d", a, b)
	}
	for acct, want := range map[int64]position{1: {4, -401}, 2: {-3, 300}, 3: {-1, 101}, 4: {}} {
		if got := net(tape, l, acct, 0); got != want {
			t.Errorf("Net of account %d is %v, want %v", acct, got, want)
		}
		if got := net(tape, l, acct, 1); got != (position{}) {
			t.Errorf("Net of account %d in book 1 is %v", acct, got)
		}
	}
}

// The models go through the records one by one, and for each of them through the commands from the last one on.

func sumsModel(l []impl.Rec, sym int64, id int64) impl.Sums {
	s := impl.Sums{}
	for _, r := range l {
		if r.Sym != sym {
			continue
		}
		if r.Kind == 1 && r.Id == id {
			s.Acked += r.Qty
		}
		if r.Kind == 4 && r.Id == id {
			s.Cancelled += r.Qty
		}
		if r.Kind == 3 && (r.Id == id || r.Other == id) {
			s.Filled += r.Qty
		}
	}
	return s
}

func volumeModel(l []impl.Rec, sym int64) int64 {
	return traded(slices.DeleteFunc(slices.Clone(l), func(r impl.Rec) bool { return r.Sym != sym }))
}

// netsModel returns the positions of all accounts.
func netsModel(l []impl.Rec, orders []impl.Cmd, sym int64) map[int64]position {
	orders = slices.DeleteFunc(slices.Clone(orders), func(c impl.Cmd) bool { return !validCmd(c) || c.Kind > 5 || c.Sym != sym })
	nets := map[int64]position{}
	for _, r := range l {
		if r.Kind != 3 || r.Sym != sym {
			continue
		}
		for _, id := range []int64{r.Id, r.Other} {
			c := lastWithId(orders, id)
			p := nets[c.Acct]
			if c.Side == 1 {
				nets[c.Acct] = position{p.qty + r.Qty, p.money - r.Price*r.Qty}
			} else if c.Side == 2 {
				nets[c.Acct] = position{p.qty - r.Qty, p.money + r.Price*r.Qty}
			}
		}
	}
	return nets
}

func lastWithId(orders []impl.Cmd, id int64) impl.Cmd {
	for _, c := range slices.Backward(orders) {
		if c.Id == id {
			return c
		}
	}
	return impl.Cmd{}
}

// randomRecs returns valid records of few books and orders, not all of which a book could have.
func randomRecs(d *dice, n int64) []impl.Rec {
	var l []impl.Rec
	for range n {
		r := impl.Rec{Stamp: d.roll(5), Kind: 1 + d.roll(5), Sym: d.roll(5), Acct: d.roll(5), Id: d.roll(6), Other: d.roll(6), Price: d.roll(9), Qty: d.roll(9)}
		if d.roll(2) == 0 {
			r.Kind = impl.RkFill
		}
		l = append(l, r)
	}
	return l
}

func TestRulesOfRandomRecords(t *testing.T) {
	d := dice(61)
	for range 300 {
		l := randomRecs(&d, d.roll(60))
		orders := randomCmds(&d, d.roll(201), 4)
		for i := range orders {
			orders[i].Id %= 6
		}
		for sym := int64(-1); sym < 7; sym++ {
			if got, want := impl.Volume(l, sym), volumeModel(l, sym); got != want {
				t.Errorf("Volume(%v, %d) is %d, want %d", l, sym, got, want)
			}
			nets := netsModel(l, orders, sym)
			for n := int64(-1); n < 7; n++ {
				if got, want := impl.SumsOf(l, sym, n), sumsModel(l, sym, n); got != want {
					t.Errorf("SumsOf(%v, %d, %d) is %v, want %v", l, sym, n, got, want)
				}
				if got := net(l, orders, n, sym); got != nets[n] {
					t.Errorf("Net(%v, %v, %d, %d) is %v, want %v", l, orders, n, sym, got, nets[n])
				}
			}
		}
	}
}

func TestSumsCountEachKindForItself(t *testing.T) {
	var l []impl.Rec
	for kind := int64(1); kind <= 5; kind++ {
		l = append(l,
			impl.Rec{Kind: kind, Sym: 2, Id: 7, Other: 8, Qty: 1 << kind},
			impl.Rec{Kind: kind, Sym: 2, Id: 8, Other: 9, Qty: 100 << kind},
			impl.Rec{Kind: kind, Sym: 3, Id: 7, Other: 8, Qty: 10000 << kind})
	}
	l = append(l, impl.Rec{Kind: impl.RkFill, Sym: 2, Id: 5, Other: 5, Qty: 1000}, impl.Rec{Kind: impl.RkFill, Sym: 255, Id: 7, Qty: 6})
	for _, x := range []struct {
		sym, id int64
		want    impl.Sums
	}{
		{2, 7, impl.Sums{Acked: 2, Filled: 8, Cancelled: 16}},
		{2, 8, impl.Sums{Acked: 200, Filled: 808, Cancelled: 1600}},
		{2, 9, impl.Sums{Filled: 800}},
		{2, 5, impl.Sums{Filled: 1000}},
		{3, 7, impl.Sums{Acked: 20000, Filled: 80000, Cancelled: 160000}},
		{3, 8, impl.Sums{Filled: 80000}},
		{255, 7, impl.Sums{Filled: 6}},
		{255, 0, impl.Sums{Filled: 6}},
	} {
		if got := impl.SumsOf(l, x.sym, x.id); got != x.want {
			t.Errorf("SumsOf of %d in book %d is %v, want %v", x.id, x.sym, got, x.want)
		}
	}
	for sym, want := range map[int64]int64{2: 1808, 3: 80000, 255: 6} {
		if got := impl.Volume(l, sym); got != want {
			t.Errorf("Volume of book %d is %d, want %d", sym, got, want)
		}
	}
	for _, sym := range append(outside(0, 255), 0, 1, 4, 254) {
		if got := impl.Volume(l, sym); got != 0 {
			t.Errorf("Volume of book %d, of which there is no record, is %d", sym, got)
		}
		for _, id := range []int64{0, 5, 7, 8, 9} {
			if got := impl.SumsOf(l, sym, id); got != (impl.Sums{}) {
				t.Errorf("SumsOf of book %d, of which there is no record, is %v", sym, got)
			}
		}
	}
	for _, id := range append(outside(0, 1000000000), 1, 6, 10, 1000000000) {
		if got := impl.SumsOf(l, 2, id); got != (impl.Sums{}) {
			t.Errorf("SumsOf of order %d, of which there is no record, is %v", id, got)
		}
	}
}

func TestRulesOfNoRecords(t *testing.T) {
	for _, l := range [][]impl.Rec{nil, {}} {
		if impl.SumsOf(l, 0, 1) != (impl.Sums{}) || impl.Volume(l, 0) != 0 || net(l, ruleCmds(), 1, 0) != (position{}) {
			t.Error("there is something of no records")
		}
	}
}

func TestRulesOfManyRecords(t *testing.T) {
	most := impl.Rec{Kind: impl.RkFill, Sym: 3, Id: 1000000000, Other: 999999999, Price: 1000000, Qty: 1000000}
	l := slices.Repeat([]impl.Rec{most}, 3000)
	buyer := inBook(3, buy(impl.CkLimit, by(100, 1000000000, 1000000, 1000000), impl.SpBoth))
	seller := inBook(3, sell(impl.CkMarket, by(99, 999999999, 0, 1), impl.SpOld))
	orders := []impl.Cmd{buyer, seller}
	if got := impl.SumsOf(l, 3, 1000000000); got != (impl.Sums{Filled: 3000000000}) {
		t.Errorf("SumsOf is %v", got)
	}
	if got := impl.Volume(l, 3); got != 3000000000 {
		t.Errorf("Volume is %d", got)
	}
	if a, b := net(l, orders, 100, 3), net(l, orders, 99, 3); a != (position{3000000000, -3000000000000000}) || b != (position{-3000000000, 3000000000000000}) {
		t.Errorf("Net is %v and %v", a, b)
	}
}

func invalidRecs() []impl.Rec {
	bad := []impl.Rec{{}, {Qty: 1}}
	for kind := int64(1); kind <= 5; kind++ {
		for _, f := range recFields() {
			for _, n := range outside(f.low, f.high) {
				r := impl.Rec{Kind: kind, Sym: 1, Id: 1, Other: 2, Price: 3, Qty: 3}
				*f.at(&r) = n
				bad = append(bad, r)
			}
		}
	}
	return bad
}

func TestRulesOfInvalidRecords(t *testing.T) {
	good := impl.Rec{Kind: impl.RkFill, Id: 1, Other: 2, Price: 4, Qty: 3}
	acked := impl.Rec{Kind: impl.RkAck, Id: 1, Price: 4, Qty: 3}
	for _, r := range invalidRecs() {
		for _, l := range [][]impl.Rec{{r}, {r, good, acked}, {good, acked, r}, {good, r, acked}} {
			for sym := range int64(3) {
				if got := impl.SumsOf(l, sym, 1); got != (impl.Sums{}) {
					t.Errorf("SumsOf(%v, %d, 1) is %v", l, sym, got)
				}
				if got := impl.Volume(l, sym); got != -1 {
					t.Errorf("Volume(%v, %d) is %d", l, sym, got)
				}
				if got := net(l, ruleCmds(), 1, sym); got != (position{}) {
					t.Errorf("Net(%v, 1, %d) is %v", l, sym, got)
				}
			}
		}
	}
}

func TestRulesAtTheLimitsOfRecords(t *testing.T) {
	for _, f := range recFields() {
		for _, n := range []int64{f.low, f.high} {
			r := impl.Rec{Kind: impl.RkFill, Id: 1, Other: 2, Price: 4, Qty: 3}
			if f.name == "Kind" {
				continue
			}
			*f.at(&r) = n
			l := []impl.Rec{r, {Kind: 1, Id: 1, Qty: 5}, {Kind: 5, Qty: 1}}
			if got := impl.Volume(l, r.Sym); got != r.Qty {
				t.Errorf("Volume(%v) is %d", l, got)
			}
			if got, want := impl.SumsOf(l, r.Sym, 1), sumsModel(l, r.Sym, 1); got != want {
				t.Errorf("SumsOf(%v) is %v, want %v", l, got, want)
			}
			if got, want := net(l, ruleCmds(), 2, 0), netsModel(l, ruleCmds(), 0)[2]; got != want {
				t.Errorf("Net(%v) is %v, want %v", l, got, want)
			}
		}
	}
}

func TestResting(t *testing.T) {
	for name, e := range validEngines() {
		for sym, b := range e.Books {
			for _, o := range slices.Concat(b.Bids, b.Asks) {
				if got := impl.Resting(e, int64(sym), o.Id); got != o.Qty {
					t.Errorf("%s: of %v in book %d rests %d", name, o, sym, got)
				}
			}
			for _, id := range []int64{0, -1, 999, 1000000000, 1000000001, math.MinInt64, math.MaxInt64} {
				if got := impl.Resting(e, int64(sym), id); got != 0 {
					t.Errorf("%s: of order %d in book %d, which has no such order, rests %d", name, id, sym, got)
				}
			}
		}
		for _, sym := range outside(0, 3) {
			for _, id := range []int64{1, 2, 4, 20} {
				if got := impl.Resting(e, sym, id); got != 0 {
					t.Errorf("%s: in book %d rests %d", name, sym, got)
				}
			}
		}
	}
	e := engineOf(impl.Book{Bids: []impl.Order{by(1, 5, 10, 7)}}, impl.Book{Asks: []impl.Order{by(2, 5, 9, 1000000), by(2, 6, 9, 8)}})
	for _, x := range []struct{ sym, id, want int64 }{{0, 5, 7}, {1, 5, 1000000}, {1, 6, 8}, {0, 6, 0}, {2, 5, 0}, {3, 5, 0}} {
		if got := impl.Resting(e, x.sym, x.id); got != x.want {
			t.Errorf("of order %d in book %d rests %d", x.id, x.sym, got)
		}
	}
}

func TestRestingOfInvalidEngines(t *testing.T) {
	for name, e := range invalidEngines() {
		for sym := int64(-1); sym <= 9; sym++ {
			for _, id := range []int64{1, 2, 3, 4, 5, 11, 20, 40, 59} {
				if got := impl.Resting(e, sym, id); got != 0 {
					t.Errorf("%s: of order %d in book %d rests %d", name, id, sym, got)
				}
			}
		}
	}
}

// A tale is a list of commands in which an order number is used again, and what follows from it.
type tale struct {
	name string
	cmds []impl.Cmd
	sums impl.Sums // of order 1 in book 0
	rest int64
	nets map[int64]position // in book 0
}

func limits(l ...impl.Cmd) []impl.Cmd { return l }

func buys(acct int64, id int64, price int64, qty int64) impl.Cmd {
	return buy(impl.CkLimit, by(acct, id, price, qty), impl.SpNew)
}

func sells(acct int64, id int64, price int64, qty int64) impl.Cmd {
	return sell(impl.CkLimit, by(acct, id, price, qty), impl.SpNew)
}

func talesBehindAFill() []tale {
	begin := limits(buys(1, 1, 100, 5), sells(2, 2, 100, 5))
	then := func(l ...impl.Cmd) []impl.Cmd { return append(slices.Clone(begin), l...) }
	return []tale{
		{"not used again", begin, impl.Sums{Acked: 5, Filled: 5}, 0, map[int64]position{1: {5, -500}, 2: {-5, 500}}},
		{"by the same account, on the same side", then(buys(1, 1, 90, 3), sells(3, 3, 90, 2)), impl.Sums{Acked: 8, Filled: 7}, 1,
			map[int64]position{1: {7, -680}, 2: {-5, 500}, 3: {-2, 180}}},
		{"by the same account, on the other side", then(sells(1, 1, 110, 3), buys(3, 3, 110, 2)), impl.Sums{Acked: 8, Filled: 7}, 1,
			map[int64]position{1: {-7, 720}, 2: {-5, 500}, 3: {2, -220}}},
		{"by another account, on the same side", then(buys(4, 1, 90, 3), sells(3, 3, 90, 2)), impl.Sums{Acked: 8, Filled: 7}, 1,
			map[int64]position{1: {}, 2: {-5, 500}, 3: {-2, 180}, 4: {7, -680}}},
		{"by another account, on the other side", then(sells(4, 1, 110, 3)), impl.Sums{Acked: 8, Filled: 5}, 3,
			map[int64]position{1: {}, 2: {-5, 500}, 4: {-5, 500}}},
		{"by the account of the other order, to buy", then(buys(2, 1, 90, 3)), impl.Sums{Acked: 8, Filled: 5}, 3,
			map[int64]position{1: {}, 2: {}}},
		{"by the account of the other order, to sell", then(sells(2, 1, 110, 3)), impl.Sums{Acked: 8, Filled: 5}, 3,
			map[int64]position{1: {}, 2: {-10, 1000}}},
		{"the number of the incoming order", then(sells(1, 2, 110, 3)), impl.Sums{Acked: 5, Filled: 5}, 0,
			map[int64]position{1: {}, 2: {}}},
		{"three times", then(sells(4, 1, 110, 3), buys(5, 5, 110, 3), buys(6, 1, 50, 1)), impl.Sums{Acked: 9, Filled: 8}, 1,
			map[int64]position{1: {}, 2: {-5, 500}, 4: {}, 5: {3, -330}, 6: {8, -830}}},
		{"in another book", then(inBook(1, sells(4, 1, 110, 3)), inBook(3, buys(2, 1, 110, 3))), impl.Sums{Acked: 5, Filled: 5}, 0,
			map[int64]position{1: {5, -500}, 2: {-5, 500}, 4: {}}},
		{"by an order that trades at once", then(buys(6, 6, 80, 2), sell(impl.CkIoc, by(7, 1, 80, 9), impl.SpNew)), impl.Sums{Acked: 14, Filled: 7, Cancelled: 7}, 0,
			map[int64]position{1: {}, 2: {-5, 500}, 6: {2, -160}, 7: {-7, 660}}},
	}
}

func talesBehindOtherThings() []tale {
	begin := limits(buys(1, 1, 100, 5), sells(2, 2, 100, 2))
	then := func(l ...impl.Cmd) []impl.Cmd { return append(slices.Clone(begin), l...) }
	both := map[int64]position{1: {2, -200}, 2: {-2, 200}}
	return []tale{
		{"while it rests, which is rejected", then(buys(3, 1, 90, 4)), impl.Sums{Acked: 5, Filled: 2}, 3,
			map[int64]position{1: {}, 2: {-2, 200}, 3: {2, -200}}},
		{"behind a cancellation", then(cancel(1, 1), buys(3, 1, 101, 4), sells(2, 5, 101, 1)), impl.Sums{Acked: 9, Filled: 3, Cancelled: 3}, 3,
			map[int64]position{1: {}, 2: {-3, 301}, 3: {3, -301}}},
		{"behind a cancellation, by the same account", then(cancel(1, 1), buys(1, 1, 101, 4), sells(2, 5, 101, 1)), impl.Sums{Acked: 9, Filled: 3, Cancelled: 3}, 3,
			map[int64]position{1: {3, -301}, 2: {-3, 301}}},
		{"behind a mass cancellation", then(wide(impl.CkMass, 1), sells(3, 1, 101, 4)), impl.Sums{Acked: 9, Filled: 2, Cancelled: 3}, 4,
			map[int64]position{1: {}, 2: {-2, 200}, 3: {-2, 200}}},
		{"by a blocked account, which is rejected", then(wide(impl.CkBlock, 1), sells(1, 1, 101, 4)), impl.Sums{Acked: 5, Filled: 2, Cancelled: 3}, 0,
			map[int64]position{1: {-2, 200}, 2: {-2, 200}}},
		{"behind a replacement", then(replace(by(1, 1, 101, 4), impl.SpNew), sells(2, 4, 101, 4), sells(3, 1, 105, 6)), impl.Sums{Acked: 15, Filled: 6, Cancelled: 3}, 6,
			map[int64]position{1: {}, 2: {-6, 604}, 3: {-6, 604}}},
		{"behind a replacement, by the same account", then(replace(by(1, 1, 100, 1), impl.SpNew), sells(2, 4, 100, 1), buys(1, 1, 90, 6)), impl.Sums{Acked: 12, Filled: 3, Cancelled: 3}, 6,
			map[int64]position{1: {3, -300}, 2: {-3, 300}}},
		{"by a cancellation alone", then(cancel(1, 1)), impl.Sums{Acked: 5, Filled: 2, Cancelled: 3}, 0, both},
		{"by a replacement alone", then(replace(by(1, 1, 100, 1), impl.SpNew)), impl.Sums{Acked: 6, Filled: 2, Cancelled: 3}, 1, both},
		{"by another account's cancellation and replacement", then(cancel(3, 1), replace(by(3, 1, 100, 1), impl.SpNew)), impl.Sums{Acked: 5, Filled: 2}, 3, both},
		{"by commands that are not valid", then(buy(impl.CkLimit, by(3, 1, 90, 4), 4), buys(101, 1, 90, 4), buys(3, 1, 90, 1000001), inBook(4, buys(3, 1, 90, 1))), impl.Sums{Acked: 5, Filled: 2}, 3, both},
		{"in other books", then(inBook(1, buys(3, 1, 90, 4)), inBook(2, sells(1, 1, 90, 4)), inBook(3, buys(2, 1, 1, 4))), impl.Sums{Acked: 5, Filled: 2}, 3, both},
	}
}

func TestAnOrderNumberThatIsUsedAgain(t *testing.T) {
	for _, x := range append(talesBehindAFill(), talesBehindOtherThings()...) {
		e, tape := impl.Fold(x.cmds)
		if got := impl.SumsOf(tape, 0, 1); got != x.sums {
			t.Errorf("%s: the sums are %+v, want %+v", x.name, got, x.sums)
		}
		if got := impl.Resting(e, 0, 1); got != x.rest || x.sums.Acked != x.sums.Filled+x.sums.Cancelled+got {
			t.Errorf("%s: %d rests, want %d", x.name, got, x.rest)
		}
		for acct, want := range x.nets {
			if got := net(tape, x.cmds, acct, 0); got != want {
				t.Errorf("%s: Net of account %d is %v, want %v", x.name, acct, got, want)
			}
		}
	}
}

// Each kind of order tells whose it is, on both sides, and no other kind of command does.
func TestNetOfEachKindOfCommand(t *testing.T) {
	l := []impl.Rec{{Kind: impl.RkFill, Sym: 2, Acct: 77, Id: 5, Other: 6, Price: 10, Qty: 3}}
	for _, c := range sampleCmds() {
		if uses(c.Kind, "Sym") {
			c.Sym, c.Acct = 2, 8
		}
		for _, id := range []int64{5, 6, 7} {
			if uses(c.Kind, "Id") {
				c.Id = id
			}
			want := position{}
			switch {
			case c.Kind > impl.CkPost || id == 7:
			case c.Side == impl.SdBuy:
				want = position{3, -30}
			default:
				want = position{-3, 30}
			}
			if got := net(l, []impl.Cmd{c}, 8, 2); got != want {
				t.Errorf("%+v: Net is %v, want %v", c, got, want)
			}
			first := inBook(2, buys(8, id, 1, 1))
			if got, want := net(l, []impl.Cmd{first, c}, 8, 2), netsModel(l, []impl.Cmd{first, c}, 2)[8]; got != want {
				t.Errorf("%+v behind another one: Net is %v, want %v", c, got, want)
			}
		}
	}
}

func TestNetOfInvalidCommands(t *testing.T) {
	l := []impl.Rec{{Kind: impl.RkFill, Sym: 2, Acct: 8, Id: 5, Other: 6, Price: 10, Qty: 3}}
	good := inBook(2, sells(8, 5, 1, 1))
	for _, f := range cmdFields() {
		for _, n := range outside(f.low, f.high) {
			bad := inBook(2, buys(9, 5, 1, 1))
			*f.at(&bad) = n
			if got := net(l, []impl.Cmd{good, bad}, 8, 2); got != (position{-3, 30}) {
				t.Errorf("%+v behind another one: Net is %v", bad, got)
			}
			for _, acct := range []int64{bad.Acct, 9, 0} {
				if got := net(l, []impl.Cmd{bad}, acct, bad.Sym); got != (position{}) {
					t.Errorf("%+v: Net is %v", bad, got)
				}
			}
		}
	}
}

func TestNetTakesNothingFromTheRecordsButTheNumbers(t *testing.T) {
	fill := impl.Rec{Stamp: 9, Kind: impl.RkFill, Sym: 0, Acct: 3, Id: 1, Other: 2, Price: 10, Qty: 3}
	orders := limits(buys(1, 1, 1, 1), sells(2, 2, 999, 2))
	for acct, want := range map[int64]position{1: {3, -30}, 2: {-3, 30}, 3: {}, 0: {}, -1: {}, 101: {}, math.MaxInt64: {}, math.MinInt64: {}} {
		if got := net([]impl.Rec{fill}, orders, acct, 0); got != want {
			t.Errorf("account %d: Net is %v, want %v", acct, got, want)
		}
	}
	var others []impl.Rec
	for kind := int64(1); kind <= 5; kind++ {
		if kind != impl.RkFill {
			others = append(others, impl.Rec{Kind: kind, Acct: 1, Id: 1, Other: 2, Price: 10, Qty: 3})
		}
	}
	if got := net(others, orders, 1, 0); got != (position{}) {
		t.Errorf("without fills: Net is %v", got)
	}
	for _, sym := range append(outside(0, 0), 1, 2, 3, 4, 255) {
		if got := net([]impl.Rec{fill}, orders, 1, sym); got != (position{}) {
			t.Errorf("symbol %d: Net is %v", sym, got)
		}
	}
	far := fill
	far.Sym = 4
	if got := net([]impl.Rec{far}, []impl.Cmd{inBook(4, orders[0]), orders[1]}, 1, 4); got != (position{}) {
		t.Errorf("of a symbol without book: Net is %v", got)
	}
}

// Both orders of a fill may be of the account, and be the same one.
func TestNetOfAnAccountOnBothSides(t *testing.T) {
	l := []impl.Rec{{Kind: impl.RkFill, Acct: 1, Id: 1, Other: 2, Price: 10, Qty: 3}, {Kind: impl.RkFill, Acct: 1, Id: 3, Other: 3, Price: 100, Qty: 1}}
	for _, x := range []struct {
		orders []impl.Cmd
		want   position
	}{
		{limits(buys(1, 1, 1, 1), sells(1, 2, 1, 1)), position{}},
		{limits(sells(1, 1, 1, 1), buys(1, 2, 1, 1)), position{}},
		{limits(buys(1, 1, 1, 1), buys(1, 2, 1, 1)), position{6, -60}},
		{limits(sells(1, 1, 1, 1), sells(1, 2, 1, 1)), position{-6, 60}},
		{limits(buys(1, 1, 1, 1), sells(2, 2, 1, 1)), position{3, -30}},
		{limits(buys(1, 1, 1, 1), sells(1, 2, 1, 1), buys(2, 1, 1, 1)), position{-3, 30}},
		{limits(buys(1, 3, 1, 1)), position{2, -200}},
		{limits(sells(1, 3, 1, 1)), position{-2, 200}},
		{limits(sells(1, 3, 1, 1), buys(1, 1, 1, 1)), position{1, 170}},
		{limits(buys(2, 1, 1, 1), sells(2, 2, 1, 1)), position{}},
		{nil, position{}},
	} {
		if got := net(l, x.orders, 1, 0); got != x.want {
			t.Errorf("%v: Net is %v, want %v", x.orders, got, x.want)
		}
	}
}

func TestNetOfAtMost200Commands(t *testing.T) {
	l := []impl.Rec{{Kind: impl.RkFill, Id: 1, Other: 2, Price: 10, Qty: 3}}
	for _, filler := range []impl.Cmd{{}, buys(5, 9, 1, 1), wide(impl.CkMass, 1), inBook(1, buys(1, 1, 1, 1)), cancel(1, 1)} {
		for _, n := range []int{1, 2, 199, 200, 201, 202, 400} {
			want := position{3, -30}
			if n > 200 {
				want = position{}
			}
			for _, at := range []int{0, n / 2, n - 1} {
				orders := slices.Repeat([]impl.Cmd{filler}, n)
				orders[at] = buys(1, 1, 50, 7)
				if got := net(l, orders, 1, 0); got != want {
					t.Errorf("%d commands of which the order is number %d: Net is %v", n, at, got)
				}
			}
		}
	}
}

// recordableCmds returns commands whose accounts a valid record can have, also that of one that is rejected.
func recordableCmds(d *dice) []impl.Cmd {
	l := randomCmds(d, 200, 5)
	for i := range l {
		l[i].Acct %= 256
	}
	return l
}

// wantAccounted checks promise 6 for all orders that the commands may have.
func wantAccounted(t *testing.T, before impl.Engine, after impl.Engine, tape []impl.Rec) {
	t.Helper()
	for sym := range int64(4) {
		for id := range int64(61) {
			s := impl.SumsOf(tape, sym, id)
			if impl.Resting(before, sym, id)+s.Acked != s.Filled+s.Cancelled+impl.Resting(after, sym, id) {
				t.Errorf("order %d in book %d: %+v, and %d rests", id, sym, s, impl.Resting(after, sym, id))
			}
		}
	}
}

func TestAcknowledgedIsFilledCancelledOrRests(t *testing.T) {
	d := dice(62)
	filled := int64(0)
	for range 25 {
		e := randomEngine(&d, 4, 8)
		n, tape := impl.FoldFrom(e, recordableCmds(&d), 1)
		wantAccounted(t, e, n, tape)
		n, tape = impl.Fold(recordableCmds(&d))
		wantAccounted(t, impl.EngineNew(), n, tape)
		filled += impl.Volume(tape, 0)
	}
	if filled == 0 {
		t.Error("nothing was traded")
	}
}

// withOwnNumbers gives each order a number of its own, and what refers to an order the number of one before it.
func withOwnNumbers(d *dice, l []impl.Cmd) []impl.Cmd {
	for i := range l {
		if validCmd(l[i]) && l[i].Kind <= impl.CkPost {
			l[i].Id = int64(i + 1)
		} else if l[i].Kind <= impl.CkRepl {
			l[i].Id = 1 + d.roll(int64(i+1))
		}
	}
	return l
}

func TestPositionsSumToZero(t *testing.T) {
	d := dice(63)
	some := 0
	for range 40 {
		l := withOwnNumbers(&d, recordableCmds(&d))
		_, tape := impl.Fold(l)
		for sym := range int64(4) {
			all := position{}
			nets := netsModel(tape, l, sym)
			for acct := range int64(101) {
				p := net(tape, l, acct, sym)
				all = position{all.qty + p.qty, all.money + p.money}
				if p != (position{}) {
					some++
				}
				if p != nets[acct] {
					t.Errorf("Net of account %d in book %d is %v, want %v", acct, sym, p, nets[acct])
				}
			}
			if all != (position{}) {
				t.Errorf("the positions in book %d sum to %v", sym, all)
			}
		}
	}
	if some == 0 {
		t.Error("nobody has a position")
	}
}

func TestRulesLeaveTheirArguments(t *testing.T) {
	d := dice(64)
	e := randomEngine(&d, 5, 9)
	wantEngineUntouched(t, "Resting", e, func(e impl.Engine) impl.Engine {
		impl.Resting(e, 1, 1)
		return impl.Engine{}
	})
	cmds := recordableCmds(&d)
	_, tape := impl.Fold(cmds)
	l, orders := roomy(tape, impl.Rec{Kind: 3, Id: 1}), roomy(cmds, buys(1, 1, 1, 1))
	before, given := slices.Clone(l[:cap(l)]), slices.Clone(orders[:cap(orders)])
	for range 3 {
		impl.SumsOf(l, 0, 1)
		impl.Volume(l, 0)
		for acct := range int64(7) {
			if first, again := net(l, orders, acct, 0), net(l, orders, acct, 0); first != again {
				t.Errorf("Net is first %v, then %v", first, again)
			}
		}
	}
	if !slices.Equal(l[:cap(l)], before) || !slices.Equal(orders[:cap(orders)], given) {
		t.Error("the records or the commands changed")
	}
}
