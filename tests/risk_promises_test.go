package tests

import (
	"slices"
	"testing"

	"loop.example/g00609/impl"
)

// greaterRisks returns limits of which none is less than in r.
func greaterRisks(d *dice, r impl.Risk) []impl.Risk {
	l := []impl.Risk{r, mostRisk(r.Acct)}
	for _, f := range riskFields() {
		for _, n := range []int64{*f.at(&r) + 1, *f.at(&r) + d.roll(50), f.high} {
			x := r
			*f.at(&x) = min(n, f.high)
			l = append(l, x)
		}
	}
	return append(l, impl.Risk{Acct: r.Acct, Size: r.Size + d.roll(9), Open: r.Open + d.roll(9), Long: r.Long + d.roll(9)})
}

func TestWhatIsAllowedRemainsAllowedWithGreaterLimits(t *testing.T) {
	d := dice(142)
	allowed := 0
	for range 4000 {
		e, r := randomEngine(&d, 4, 6), randomRisk(&d, 4)
		c, has := randomOrder(&d, r.Acct), d.roll(21)-10
		if d.roll(10) == 0 {
			c = randomWide(&d, 0, 4)
		}
		if impl.Allowed(e, r, c, has) != impl.RiOk {
			continue
		}
		allowed++
		for _, x := range greaterRisks(&d, r) {
			if code := impl.Allowed(e, x, c, has); code != impl.RiOk {
				t.Errorf("%+v is allowed for %+v with %d, but for %+v the code is %d", c, r, has, x, code)
			}
		}
	}
	if allowed < 500 {
		t.Errorf("only %d commands were allowed", allowed)
	}
}

// tradedBy returns how much the order of a command has bought.
func tradedBy(c impl.Cmd, recs []impl.Rec) int64 {
	qty := int64(0)
	for _, r := range recs {
		if r.Kind == impl.RkFill {
			qty += r.Qty
		}
	}
	if c.Side == impl.SdSell {
		return -qty
	}
	return qty
}

// signedOrders returns how much each order of an account in a book would buy; one that would sell has a number below 0.
func signedOrders(b impl.Book, acct int64) []int64 {
	var l []int64
	for _, o := range b.Bids {
		if o.Acct == acct {
			l = append(l, o.Qty)
		}
	}
	for _, o := range b.Asks {
		if o.Acct == acct {
			l = append(l, -o.Qty)
		}
	}
	return l
}

// wantPositions checks the position with which an account is left, and those to which it comes if some of its orders are
// filled, in whole or in part.
func wantPositions(t *testing.T, d *dice, what string, e impl.Engine, acct int64, sym int64, has int64, long int64) {
	t.Helper()
	open := signedOrders(e.Books[sym], acct)
	least, greatest := has, has
	for _, filled := range subsets(len(open)) {
		position, part := has, has
		for _, i := range filled {
			position += open[i]
			part += open[i] * d.roll(5) / 4
		}
		if position > long || position < -long || part > long || part < -long {
			t.Errorf("%s: with %v of the orders %v filled, the position %d becomes %d", what, filled, open, has, position)
		}
		least, greatest = min(least, position), max(greatest, position)
	}
	wantWorst(t, what, e, acct, sym, has, least, greatest)
}

// The engines are such that the account has some orders, but not too many for all subsets of them.
func TestPositionsAfterAllowedOrders(t *testing.T) {
	d := dice(143)
	allowed, taken := 0, 0
	for range 6000 {
		e, r := randomEngine(&d, 3, 10), randomRisk(&d, 3)
		r.Size, r.Open = 9, 60
		c, has := randomOrder(&d, r.Acct), d.roll(21)-10
		n, recs, code := impl.Guarded(e, r, c, has)
		if code != impl.RiOk || len(signedOrders(n.Books[c.Sym], r.Acct)) > 8 {
			continue
		}
		allowed++
		if tradedBy(c, recs) != 0 {
			taken++
		}
		wantPositions(t, &d, "behind the order", n, r.Acct, c.Sym, has+tradedBy(c, recs), r.Long)
		wantPositions(t, &d, "before the order", e, r.Acct, c.Sym, has, r.Long)
	}
	if allowed < 300 || taken < 50 {
		t.Errorf("%d orders were allowed, of which %d traded", allowed, taken)
	}
}

// A desk has the positions of the accounts in each book, by what was filled.
type desk struct {
	engine    impl.Engine
	positions [4]map[int64]int64
	owner     map[int64]int64
}

func newDesk() *desk {
	x := &desk{engine: impl.EngineNew(), owner: map[int64]int64{}}
	for sym := range x.positions {
		x.positions[sym] = map[int64]int64{}
	}
	return x
}

// send performs a command with the limits of its account, and reports whether it was allowed.
func (x *desk) send(c impl.Cmd, r impl.Risk) bool {
	n, recs, code := impl.Guarded(x.engine, r, c, x.positions[c.Sym][c.Acct])
	if code != impl.RiOk {
		return false
	}
	x.engine = n
	if c.Side != 0 {
		x.owner[c.Id] = c.Acct
	}
	for _, f := range recs {
		if f.Kind != impl.RkFill {
			continue
		}
		qty := f.Qty
		if c.Side == impl.SdSell {
			qty = -qty
		}
		x.positions[c.Sym][c.Acct] += qty
		x.positions[c.Sym][x.owner[f.Other]] -= qty
	}
	return true
}

// If all orders of an account are guarded by its position, the position never exceeds its limit.
func TestPositionsOfGuardedAccounts(t *testing.T) {
	d := dice(144)
	atLimit := map[bool]int{}
	for range 60 {
		x := newDesk()
		for i := range int64(300) {
			acct := 1 + d.roll(4)
			r := impl.Risk{Acct: acct, Size: 7, Open: 30, Long: 3 * acct}
			c := randomOrder(&d, acct)
			if c.Id = 1 + i; d.roll(6) == 0 {
				c = inBook(c.Sym, cancel(acct, 1+d.roll(i+1)))
			}
			x.send(c, r)
			for _, positions := range x.positions {
				for acct, n := range positions {
					if n > 3*acct || n < -3*acct {
						t.Errorf("%+v: the position of account %d is %d", c, acct, n)
					}
					if n == 3*acct || n == -3*acct {
						atLimit[n > 0]++
					}
				}
			}
		}
	}
	if atLimit[true] < 100 || atLimit[false] < 100 {
		t.Errorf("positions at their limits: %v", atLimit)
	}
}

// An account that sells first has a limit, too: the orders of these cases meet its short position alone.
func TestShortPositionsOfGuardedAccounts(t *testing.T) {
	for _, long := range []int64{0, 1, 5, 100} {
		x := newDesk()
		x.send(buys(2, 1, 50, 1000), mostRisk(2))
		r := impl.Risk{Acct: 1, Size: 1000, Open: 1000, Long: long}
		for i := range int64(150) {
			if ok := x.send(sells(1, 2+i, 50, 1), r); ok != (i < long) {
				t.Errorf("Long %d: order %d was allowed: %v", long, i, ok)
			}
		}
		if n := x.positions[0][1]; n != -long {
			t.Errorf("Long %d: the position is %d", long, n)
		}
		for _, qty := range []int64{2 * long, 2*long + 1} {
			if qty == 0 {
				continue
			}
			if ok := x.send(buys(1, 500+qty, 40, qty), r); ok != (qty == 2*long) {
				t.Errorf("Long %d: an order to buy %d was allowed: %v", long, qty, ok)
			}
		}
	}
}

func TestRisksKeepTheirArguments(t *testing.T) {
	type call struct {
		E   impl.Engine
		R   impl.Risk
		C   impl.Cmd
		Has int64
	}
	type result struct {
		E impl.Engine
		L []impl.Rec
	}
	guarded := func(x call) result {
		n, l, _ := impl.Guarded(x.E, x.R, x.C, x.Has)
		return result{n, l}
	}
	others := func(x call) int64 {
		impl.Open(x.E, x.C.Acct, x.C.Sym)
		impl.Worst(x.E, x.C.Acct, x.C.Sym, x.Has)
		return impl.Allowed(x.E, x.R, x.C, x.Has)
	}
	d := dice(145)
	seen := map[int64]int{}
	for range 1500 {
		e, r := randomEngine(&d, 3, 8), randomRisk(&d, 3)
		c, has := randomOrder(&d, r.Acct), d.roll(21)-10
		if d.roll(5) == 0 {
			c = randomWide(&d, 0, 3)
		}
		wantKept(t, "Guarded", call{e, r, c, has}, guarded)
		wantKept(t, "Allowed", call{e, r, c, has}, others)
		seen[impl.Allowed(e, r, c, has)]++
	}
	if len(seen) != 5 {
		t.Errorf("codes %v", seen)
	}
	for name, e := range invalidEngines() {
		wantKept(t, name, call{E: e, R: mostRisk(3), C: buys(3, 9, 5, 1)}, guarded)
		wantKept(t, name, call{E: e, R: mostRisk(3), C: buys(3, 9, 5, 1)}, others)
	}
	for name, e := range validEngines() {
		wantKept(t, name, call{E: e, R: impl.Risk{Acct: 3}, C: buys(3, 9, 5, 1)}, guarded)
		wantKept(t, name, call{E: e, R: mostRisk(3), C: buys(3, 9, 5, 1)}, guarded)
	}
}

func TestEqualArgumentsYieldEqualRisks(t *testing.T) {
	d := dice(146)
	for range 1000 {
		e, r := randomEngine(&d, 3, 8), randomRisk(&d, 3)
		c, has := randomOrder(&d, r.Acct), d.roll(21)-10
		n, l, code := impl.Guarded(e, r, c, has)
		least, greatest := impl.Worst(e, r.Acct, c.Sym, has)
		impl.Guarded(randomEngine(&d, 3, 8), mostRisk(1), randomOrder(&d, 1), 5)
		again, recs, second := impl.Guarded(copyEngine(e), r, c, has)
		if !sameEngine(n, again) || !slices.Equal(l, recs) || code != second || code != impl.Allowed(e, r, c, has) {
			t.Errorf("%+v: first %v %v %d, then %v %v %d", c, n, l, code, again, recs, second)
		}
		wantWorst(t, "again", copyEngine(e), r.Acct, c.Sym, has, least, greatest)
		clear(n.Books)
		clear(l)
		if third, _, _ := impl.Guarded(e, r, c, has); !sameEngine(third, again) {
			t.Errorf("%+v: first %v, then %v", c, again, third)
		}
	}
}
