package tests

import (
	"fmt"
	"math"
	"slices"
	"testing"

	"loop.example/g00609/impl"
)

// exampleRisk returns the engine, the limits and the order of the examples of chapter 14.
func exampleRisk() (impl.Engine, impl.Risk, impl.Cmd) {
	e, _ := impl.Fold(limits(buys(1, 1, 90, 5), buys(1, 2, 91, 2), sells(1, 3, 95, 4)))
	return e, impl.Risk{Acct: 1, Size: 6, Open: 15, Long: 12}, buys(1, 9, 90, 4)
}

// mostRisk has the greatest limits.
func mostRisk(acct int64) impl.Risk {
	return impl.Risk{Acct: acct, Size: 1000000, Open: 1000000000, Long: 1000000000}
}

func riskFields() []field[impl.Risk] {
	return []field[impl.Risk]{
		{"Size", func(r *impl.Risk) *int64 { return &r.Size }, 0, 1000000},
		{"Open", func(r *impl.Risk) *int64 { return &r.Open }, 0, 1000000000},
		{"Long", func(r *impl.Risk) *int64 { return &r.Long }, 0, 1000000000},
	}
}

// openModel sums up the orders of an account in a book.
func openModel(b impl.Book, acct int64) (int64, int64) {
	var sums [2]int64
	for side, l := range [][]impl.Order{b.Bids, b.Asks} {
		for _, o := range l {
			if o.Acct == acct {
				sums[side] += o.Qty
			}
		}
	}
	return sums[0], sums[1]
}

// riskModel lists all codes that apply to a command on a valid engine.
func riskModel(e impl.Engine, r impl.Risk, c impl.Cmd, has int64) []int64 {
	var codes []int64
	for _, f := range riskFields() {
		if n := *f.at(&r); n < f.low || n > f.high {
			codes = append(codes, impl.RiForm)
		}
	}
	if !validCmd(c) || c.Kind == impl.CkRepl || c.Acct != r.Acct || has < -1000000000 || has > 1000000000 {
		return []int64{impl.RiForm}
	}
	if !slices.Contains([]int64{impl.CkLimit, impl.CkMarket, impl.CkIoc, impl.CkFok, impl.CkPost}, c.Kind) {
		return append(codes, impl.RiOk)
	}
	buying, selling := openModel(e.Books[c.Sym], r.Acct)
	if c.Side == impl.SdBuy {
		buying += c.Qty
	} else {
		selling += c.Qty
	}
	if c.Qty > r.Size {
		codes = append(codes, impl.RiSize)
	}
	if buying+selling > r.Open {
		codes = append(codes, impl.RiOpen)
	}
	if has+buying > r.Long || has-selling < -r.Long {
		codes = append(codes, impl.RiLong)
	}
	return append(codes, impl.RiOk)
}

// wantCode checks the code of a command, and what Guarded does with it.
func wantCode(t *testing.T, what string, e impl.Engine, r impl.Risk, c impl.Cmd, has int64, want int64) {
	t.Helper()
	if code := impl.Allowed(e, r, c, has); code != want {
		t.Errorf("%s: Allowed of %+v for %+v with %d is %d, want %d\n%v", what, c, r, has, code, want, e)
	}
	next, recs := impl.Step(e, c)
	switch want {
	case impl.RiOk:
	case impl.RiForm:
		next, recs = impl.Engine{}, nil
	default:
		next, recs = e, nil
	}
	n, l, code := impl.Guarded(e, r, c, has)
	if !sameEngine(n, next) || !slices.Equal(l, recs) || code != want {
		t.Errorf("%s: Guarded of %+v for %+v with %d\nyields %v %+v %d,\nnot %v %+v %d", what, c, r, has, n, l, code, next, recs, want)
	}
}

func wantOpen(t *testing.T, what string, e impl.Engine, acct int64, sym int64, buying int64, selling int64) {
	t.Helper()
	if a, b := impl.Open(e, acct, sym); a != buying || b != selling {
		t.Errorf("%s: Open of account %d in book %d is %d, %d, want %d, %d", what, acct, sym, a, b, buying, selling)
	}
	for _, has := range []int64{0, 1, -1, 7, -1000000000, 1000000000} {
		wantWorst(t, what, e, acct, sym, has, has-selling, has+buying)
	}
	for _, has := range outside(-1000000000, 1000000000) {
		wantWorst(t, what, e, acct, sym, has, 0, 0)
	}
}

func wantWorst(t *testing.T, what string, e impl.Engine, acct int64, sym int64, has int64, least int64, greatest int64) {
	t.Helper()
	if a, b := impl.Worst(e, acct, sym, has); a != least || b != greatest {
		t.Errorf("%s: Worst of account %d in book %d with %d is %d, %d, want %d, %d", what, acct, sym, has, a, b, least, greatest)
	}
}

func TestRiskExamples(t *testing.T) {
	e, r, c := exampleRisk()
	wantOpen(t, "example", e, 1, 0, 7, 4)
	wantWorst(t, "example", e, 1, 0, 3, -1, 10)
	wantCode(t, "example", e, r, c, 0, impl.RiOk)
	wantCode(t, "example", e, r, c, 1, impl.RiOk)
	wantCode(t, "example", e, r, c, 2, impl.RiLong)
	c.Qty = 7
	wantCode(t, "Qty 7", e, r, c, 0, impl.RiSize)
	c.Qty = 5
	wantCode(t, "Qty 5", e, r, c, 0, impl.RiOpen)
	c.Qty = 4
	if n, l, code := impl.Guarded(e, r, c, 0); len(n.Books[0].Bids) != 3 || len(l) != 1 || code != impl.RiOk {
		t.Errorf("%v %v %d", n, l, code)
	}
	if codes := []int64{impl.RiOk, impl.RiForm, impl.RiSize, impl.RiOpen, impl.RiLong}; !slices.Equal(codes, []int64{0, 1, 2, 3, 4}) {
		t.Errorf("codes %v", codes)
	}
}

func TestOpenOfEngines(t *testing.T) {
	for name, e := range validEngines() {
		for sym := range int64(4) {
			for acct := int64(-1); acct <= 102; acct++ {
				buying, selling := openModel(e.Books[sym], acct)
				wantOpen(t, name, e, acct, sym, buying, selling)
			}
		}
		for _, sym := range outside(0, 3) {
			wantOpen(t, name, e, 5, sym, 0, 0)
			wantOpen(t, name, e, 25, sym, 0, 0)
		}
	}
	for name, e := range invalidEngines() {
		for sym := int64(-1); sym <= 5; sym++ {
			for _, acct := range []int64{1, 3, 5, 25, 50, 100, 0, 101} {
				wantOpen(t, name, e, acct, sym, 0, 0)
			}
		}
	}
}

func TestOpenOfExtremeAccounts(t *testing.T) {
	for _, acct := range outside(1, 100) {
		for sym := range int64(4) {
			wantOpen(t, "extreme account", fullEngine(), acct, sym, 0, 0)
		}
	}
}

// fullOf returns a book with 20 orders of an account on each side, of the greatest quantity.
func fullOf(acct int64) impl.Book {
	b := impl.Book{}
	for i := range int64(20) {
		b.Bids = append(b.Bids, by(acct, 1+i, 50, 1000000))
		b.Asks = append(b.Asks, by(acct, 21+i, 60, 1000000))
	}
	return b
}

func TestRisksOfTheGreatestQuantities(t *testing.T) {
	e := engineOf(impl.Book{}, fullOf(100))
	wantOpen(t, "full", e, 100, 1, 20000000, 20000000)
	wantOpen(t, "full", e, 100, 0, 0, 0)
	wantOpen(t, "full", e, 99, 1, 0, 0)
	wantWorst(t, "full", e, 100, 1, 1000000000, 980000000, 1020000000)
	wantWorst(t, "full", e, 100, 1, -1000000000, -1020000000, -980000000)
	r := mostRisk(100)
	c := inBook(1, buys(100, 99, 40, 1000000))
	wantCode(t, "full", e, r, c, 0, impl.RiOk)
	wantCode(t, "full", e, r, c, 979000000, impl.RiOk)
	wantCode(t, "full", e, r, c, 979000001, impl.RiLong)
	wantCode(t, "full", e, r, c, -980000000, impl.RiOk)
	wantCode(t, "full", e, r, c, -980000001, impl.RiLong)
	r.Open = 41000000
	wantCode(t, "full", e, r, c, 0, impl.RiOk)
	r.Open--
	wantCode(t, "full", e, r, c, 0, impl.RiOpen)
}

// everyOrderKind returns orders of all kinds to buy and to sell.
func everyOrderKind(acct int64, sym int64, qty int64) []impl.Cmd {
	var l []impl.Cmd
	for kind := int64(impl.CkLimit); kind <= impl.CkPost; kind++ {
		o := by(acct, 900, 93, qty)
		if kind == impl.CkMarket {
			o.Price = 0
		}
		for mode := int64(1); mode <= 3; mode++ {
			l = append(l, inBook(sym, buy(kind, o, mode)), inBook(sym, sell(kind, o, mode)))
		}
	}
	return l
}

func TestSizeLimit(t *testing.T) {
	e, _, _ := exampleRisk()
	for _, size := range []int64{0, 1, 2, 6, 255, 256, 999999, 1000000} {
		r := mostRisk(1)
		r.Size = size
		for sym := range int64(4) {
			if size > 0 {
				for _, c := range everyOrderKind(1, sym, size) {
					wantCode(t, "as large as Size", e, r, c, 0, impl.RiOk)
				}
			}
			if size < 1000000 {
				for _, c := range everyOrderKind(1, sym, size+1) {
					wantCode(t, "larger than Size by 1", e, r, c, 0, impl.RiSize)
				}
			}
		}
	}
}

// In book 0, account 1 would buy 7 and sell 4.
func TestOpenLimit(t *testing.T) {
	e, _, _ := exampleRisk()
	for _, qty := range []int64{1, 2, 4, 7, 100, 1000000} {
		for _, c := range everyOrderKind(1, 0, qty) {
			r := mostRisk(1)
			r.Open = 11 + qty
			wantCode(t, "at Open", e, r, c, 0, impl.RiOk)
			r.Open--
			wantCode(t, "beyond Open by 1", e, r, c, 0, impl.RiOpen)
			r.Open = 0
			wantCode(t, "Open of 0", e, r, c, 0, impl.RiOpen)
		}
		for _, c := range everyOrderKind(1, 3, qty) {
			r := mostRisk(1)
			r.Open = qty
			wantCode(t, "at Open in an empty book", e, r, c, 0, impl.RiOk)
			r.Open--
			wantCode(t, "beyond Open by 1 in an empty book", e, r, c, 0, impl.RiOpen)
		}
	}
}

func TestLongLimit(t *testing.T) {
	e, _, _ := exampleRisk()
	for _, qty := range []int64{1, 2, 3, 4, 100, 1000000} {
		for _, c := range everyOrderKind(1, 0, qty) {
			buying, selling := 7+qty, int64(4)
			if c.Side == impl.SdSell {
				buying, selling = 7, 4+qty
			}
			r := mostRisk(1)
			for _, r.Long = range []int64{(buying + selling + 1) / 2, buying + selling, 5000000, 1000000000} {
				wantCode(t, "the longest position", e, r, c, r.Long-buying, impl.RiOk)
				wantCode(t, "a position that is too long", e, r, c, r.Long-buying+1, impl.RiLong)
				wantCode(t, "the shortest position", e, r, c, selling-r.Long, impl.RiOk)
				wantCode(t, "a position that is too short", e, r, c, selling-r.Long-1, impl.RiLong)
			}
			r.Long = (buying + selling - 1) / 2
			for has := -2*r.Long - 3; has <= 2*r.Long+3; has += 1 + r.Long/50 {
				wantCode(t, "a limit that no position meets", e, r, c, has, impl.RiLong)
			}
			r.Long = 0
			for _, has := range []int64{0, 1, -1, qty, -qty, 1000000000, -1000000000} {
				wantCode(t, "Long of 0", e, r, c, has, impl.RiLong)
			}
		}
	}
}

// With no orders in the book, only the direction of the order counts.
func TestLongLimitOfOneOrder(t *testing.T) {
	e := engineOf()
	for _, x := range []struct {
		side      int64
		qty, has  int64
		long      int64
		want      int64
		what      string
		otherSide int64
	}{
		{impl.SdBuy, 5, 0, 5, impl.RiOk, "from 0 to Long", impl.RiOk},
		{impl.SdBuy, 6, 0, 5, impl.RiLong, "from 0 beyond Long", impl.RiLong},
		{impl.SdBuy, 10, -5, 5, impl.RiOk, "from -Long to Long", impl.RiLong},
		{impl.SdBuy, 11, -5, 5, impl.RiLong, "from -Long beyond Long", impl.RiLong},
		{impl.SdBuy, 1, -6, 5, impl.RiLong, "from below -Long to -Long", impl.RiLong},
		{impl.SdBuy, 1, 5, 5, impl.RiLong, "from Long", impl.RiOk},
		{impl.SdBuy, 1, 4, 5, impl.RiOk, "from one below Long", impl.RiOk},
		{impl.SdSell, 1, -5, 5, impl.RiLong, "from -Long, down", impl.RiOk},
		{impl.SdSell, 1, -4, 5, impl.RiOk, "from one above -Long, down", impl.RiOk},
		{impl.SdSell, 1, 6, 5, impl.RiLong, "from above Long, down to it", impl.RiLong},
		{impl.SdSell, 10, 5, 5, impl.RiOk, "from Long down to -Long", impl.RiLong},
		{impl.SdSell, 11, 5, 5, impl.RiLong, "from Long down beyond -Long", impl.RiLong},
		{impl.SdSell, 1, 1000000000, 1000000000, impl.RiOk, "from the greatest position, down", impl.RiLong},
		{impl.SdSell, 1, -1000000000, 1000000000, impl.RiLong, "from the least position, down", impl.RiOk},
	} {
		for kind := int64(impl.CkLimit); kind <= impl.CkPost; kind++ {
			o := by(1, 9, 50, x.qty)
			if kind == impl.CkMarket {
				o.Price = 0
			}
			c := buy(kind, o, impl.SpNew)
			c.Side = x.side
			r := mostRisk(1)
			r.Long = x.long
			wantCode(t, x.what, e, r, c, x.has, x.want)
			c.Side = 3 - x.side
			wantCode(t, x.what+", on the other side", e, r, c, x.has, x.otherSide)
			wantCode(t, x.what+", mirrored", e, r, c, -x.has, x.want)
		}
	}
}

// Orders of the account on the other side can exceed the limit, too.
func TestLongLimitOnTheOtherSide(t *testing.T) {
	e := engineOf(impl.Book{Bids: []impl.Order{by(1, 1, 90, 8)}, Asks: []impl.Order{by(1, 2, 95, 5)}})
	r := mostRisk(1)
	r.Long = 10
	for _, x := range []struct {
		c    impl.Cmd
		has  int64
		want int64
	}{
		{buys(1, 9, 80, 1), -5, impl.RiOk}, {buys(1, 9, 80, 1), -6, impl.RiLong}, {buys(1, 9, 80, 1), 1, impl.RiOk}, {buys(1, 9, 80, 1), 2, impl.RiLong},
		{sells(1, 9, 99, 1), 2, impl.RiOk}, {sells(1, 9, 99, 1), 3, impl.RiLong}, {sells(1, 9, 99, 1), -4, impl.RiOk}, {sells(1, 9, 99, 1), -5, impl.RiLong},
	} {
		wantCode(t, "other side", e, r, x.c, x.has, x.want)
	}
}

// Each case exceeds several limits; the code is that of the first one.
func TestWhichLimitComesFirst(t *testing.T) {
	e, _, _ := exampleRisk()
	for _, c := range everyOrderKind(1, 0, 10) {
		for bits := range 8 {
			r, want := mostRisk(1), int64(impl.RiOk)
			if bits&4 != 0 {
				r.Long, want = 10, impl.RiLong
			}
			if bits&2 != 0 {
				r.Open, want = 20, impl.RiOpen
			}
			if bits&1 != 0 {
				r.Size, want = 9, impl.RiSize
			}
			wantCode(t, "limits", e, r, c, 0, want)
			wantCode(t, "limits, and the position", e, r, c, 1000000001, impl.RiForm)
			wantCode(t, "limits, and a replacement", e, r, replace(by(1, 1, 90, 5), 1), 0, impl.RiForm)
			wantCode(t, "limits, and another account", e, impl.Risk{Acct: 2, Size: r.Size, Open: r.Open, Long: r.Long}, c, 0, impl.RiForm)
			wantCode(t, "limits, and no command", e, r, inBook(4, c), 0, impl.RiForm)
			wantCode(t, "limits, and no engine", impl.Engine{}, r, c, 0, impl.RiForm)
			for _, f := range riskFields() {
				x := r
				*f.at(&x) = -1
				wantCode(t, "limits, one of them not valid", e, x, c, 0, impl.RiForm)
			}
		}
	}
}

func TestBoundsOfLimits(t *testing.T) {
	e, _, _ := exampleRisk()
	for _, c := range []impl.Cmd{buys(1, 9, 80, 1), sells(1, 9, 99, 1), cancel(1, 1), wide(impl.CkMass, 1), wide(impl.CkFree, 1)} {
		for _, f := range riskFields() {
			for _, n := range []int64{0, 1, f.high - 1, f.high} {
				r := mostRisk(1)
				*f.at(&r) = n
				wantCode(t, f.name, e, r, c, 0, riskModel(e, r, c, 0)[0])
			}
			for _, n := range outside(f.low, f.high) {
				r := mostRisk(1)
				*f.at(&r) = n
				wantCode(t, f.name, e, r, c, 0, impl.RiForm)
			}
		}
		for _, has := range outside(-1000000000, 1000000000) {
			wantCode(t, "position", e, mostRisk(1), c, has, impl.RiForm)
			wantCode(t, "position with limits of 0", e, impl.Risk{Acct: 1}, c, has, impl.RiForm)
		}
	}
}

func TestBoundsOfPositions(t *testing.T) {
	e, r := engineOf(), mostRisk(1)
	wantCode(t, "down from the greatest", e, r, sells(1, 9, 99, 1000000), 1000000000, impl.RiOk)
	wantCode(t, "up from the greatest", e, r, buys(1, 9, 99, 1), 1000000000, impl.RiLong)
	wantCode(t, "up to the greatest", e, r, buys(1, 9, 99, 1), 999999999, impl.RiOk)
	wantCode(t, "down from beyond the greatest", e, r, sells(1, 9, 99, 1), 1000000001, impl.RiForm)
	wantCode(t, "up from the least", e, r, buys(1, 9, 99, 1000000), -1000000000, impl.RiOk)
	wantCode(t, "down from the least", e, r, sells(1, 9, 99, 1), -1000000000, impl.RiLong)
	wantCode(t, "down to the least", e, r, sells(1, 9, 99, 1), -999999999, impl.RiOk)
	wantCode(t, "up from beyond the least", e, r, buys(1, 9, 99, 1), -1000000001, impl.RiForm)
}

func TestCommandsThatAreNoOrders(t *testing.T) {
	e, _, _ := exampleRisk()
	none := impl.Risk{Acct: 1}
	for _, has := range []int64{0, 99, -99, 1000000000, -1000000000} {
		for sym := range int64(4) {
			for _, id := range []int64{1, 3, 8, 1000000000} {
				wantCode(t, "cancel", e, none, inBook(sym, cancel(1, id)), has, impl.RiOk)
			}
			for _, price := range []int64{90, 89} {
				wantCode(t, "replace", e, mostRisk(1), inBook(sym, replace(by(1, 1, price, 1), 1)), has, impl.RiForm)
			}
		}
		for _, kind := range []int64{impl.CkMass, impl.CkBlock, impl.CkFree} {
			wantCode(t, "all books", e, none, wide(kind, 1), has, impl.RiOk)
		}
	}
}

func TestCommandsOfOtherAccounts(t *testing.T) {
	e, _, _ := exampleRisk()
	for _, c := range oneOfEachKind(1, 900, 2) {
		for _, acct := range append(outside(1, 100), 2, 100) {
			wantCode(t, "the limits of another account", e, mostRisk(acct), c, 0, impl.RiForm)
			x := c
			x.Acct = acct
			wantCode(t, "a command of another account", e, mostRisk(1), x, 0, impl.RiForm)
		}
	}
	for _, acct := range outside(1, 100) {
		for _, c := range oneOfEachKind(acct, 900, 2) {
			wantCode(t, "an account out of range", e, mostRisk(acct), c, 0, impl.RiForm)
		}
	}
	for _, acct := range []int64{1, 2, 50, 100} {
		for _, c := range everyOrderKind(acct, 1, 3) {
			wantCode(t, "each account", e, mostRisk(acct), c, 0, impl.RiOk)
		}
	}
}

func TestRisksOfInvalidCommands(t *testing.T) {
	e, _, _ := exampleRisk()
	wantCode(t, "zero", e, mostRisk(1), impl.Cmd{}, 0, impl.RiForm)
	wantCode(t, "zero, of account 0", e, mostRisk(0), impl.Cmd{}, 0, impl.RiForm)
	for kind := int64(1); kind <= 10; kind++ {
		base := cmdOfKind(kind, func(f field[impl.Cmd]) int64 { return f.low })
		for _, f := range cmdFields() {
			for _, n := range append(outside(f.low, f.high), 0, 1, f.high) {
				c := base
				*f.at(&c) = n
				r := mostRisk(c.Acct)
				wantCode(t, f.name, e, r, c, 0, riskModel(e, r, c, 0)[0])
			}
		}
		for _, n := range outside(1, 10) {
			c := base
			c.Kind = n
			wantCode(t, "kind", e, mostRisk(1), c, 0, impl.RiForm)
		}
	}
}

func TestRisksOfInvalidEngines(t *testing.T) {
	for name, e := range invalidEngines() {
		for _, c := range oneOfEachKind(3, 900, 2) {
			wantCode(t, name, e, mostRisk(3), c, 0, impl.RiForm)
		}
	}
	for name, e := range validEngines() {
		for _, c := range oneOfEachKind(3, 900, 2) {
			wantCode(t, name, e, mostRisk(3), c, 0, riskModel(e, mostRisk(3), c, 0)[0])
		}
	}
}

// What is rejected by the engine may be allowed.
func TestAllowedCommandsThatAreRejected(t *testing.T) {
	e, r, c := exampleRisk()
	c.Id = 1
	for _, x := range []struct {
		what string
		e    impl.Engine
		c    impl.Cmd
		code int64
	}{
		{"the number is taken", e, c, impl.RcTwice},
		{"blocked", withBlocked(engineOf(), 1), c, impl.RcBlocked},
		{"no such order", e, cancel(1, 8), impl.RcNone},
		{"not filled", e, buy(impl.CkFok, by(1, 9, 90, 4), 1), impl.RcFill},
	} {
		wantCode(t, x.what, x.e, r, x.c, 0, impl.RiOk)
		n, l, _ := impl.Guarded(x.e, r, x.c, 0)
		if !sameEngine(n, x.e) || len(l) != 1 || l[0].Kind != impl.RkReject || l[0].Other != x.code {
			t.Errorf("%s: %v %v", x.what, n, l)
		}
	}
}

// Orders in other books and of other accounts do not count.
func TestOnlyTheBookAndTheAccountCount(t *testing.T) {
	e := engineOf(fullOf(1), fullOf(2), fullOf(1), impl.Book{Bids: []impl.Order{by(2, 1, 90, 50), by(1, 2, 89, 3)}, Asks: []impl.Order{by(3, 3, 95, 50), by(1, 4, 96, 2)}})
	for _, x := range []struct {
		sym  int64
		c    impl.Cmd
		open int64
	}{
		{1, buys(1, 900, 50, 4), 4}, {1, sells(1, 900, 70, 4), 4}, {3, buys(1, 900, 50, 4), 9}, {3, sells(1, 900, 99, 4), 9}, {3, buys(4, 900, 50, 4), 4}, {0, buys(1, 900, 40, 4), 40000004},
	} {
		c := inBook(x.sym, x.c)
		r := mostRisk(c.Acct)
		r.Open = x.open
		wantCode(t, "open", e, r, c, 0, impl.RiOk)
		r.Open--
		wantCode(t, "open", e, r, c, 0, impl.RiOpen)
	}
}

// randomRisk returns limits near to those that matter in engines with small quantities.
func randomRisk(d *dice, accts int64) impl.Risk {
	return impl.Risk{Acct: 1 + d.roll(accts), Size: d.roll(9), Open: d.roll(40), Long: d.roll(20)}
}

func randomOrder(d *dice, acct int64) impl.Cmd {
	l := everyOrderKind(acct, d.roll(4), 1+d.roll(7))
	c := l[d.roll(int64(len(l)))]
	if c.Kind != impl.CkMarket {
		c.Price = 90 + d.roll(14)
	}
	return c
}

func TestAllowedRandomly(t *testing.T) {
	d := dice(141)
	seen := map[string]int{}
	for range 5000 {
		e, r := randomEngine(&d, 3, 8), randomRisk(&d, 3)
		c, has := randomOrder(&d, r.Acct), d.roll(31)-15
		switch d.roll(20) {
		case 0:
			c = randomWide(&d, 0, 3)
		case 1:
			*riskFields()[d.roll(3)].at(&r) = []int64{-1, 1000000001, math.MinInt64, math.MaxInt64}[d.roll(4)]
		case 2:
			has = []int64{1000000001, -1000000001, 1000000000, -1000000000}[d.roll(4)]
		}
		codes := riskModel(e, r, c, has)
		wantCode(t, "random", e, r, c, has, codes[0])
		seen[fmt.Sprint(codes)]++
		for sym := range int64(4) {
			buying, selling := openModel(e.Books[sym], r.Acct)
			wantOpen(t, "random", e, r.Acct, sym, buying, selling)
		}
	}
	for _, codes := range []string{"[0]", "[1]", "[2 0]", "[3 0]", "[4 0]", "[2 3 0]", "[2 4 0]", "[3 4 0]", "[2 3 4 0]"} {
		if seen[codes] < 20 {
			t.Errorf("the codes %s: only %d times", codes, seen[codes])
		}
	}
}
