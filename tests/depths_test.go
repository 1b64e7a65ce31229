package tests

import (
	"math"
	"slices"
	"testing"

	"loop.example/g00609/impl"
)

func level(price int64, qty int64, many int64) impl.Level {
	return impl.Level{Price: price, Qty: qty, Many: many}
}

// removed is the update that removes a price.
func removed(price int64) impl.Level {
	return impl.Level{Price: price}
}

func levels(l ...impl.Level) []impl.Level { return l }

// ladder returns n different levels of sellers, the first of the given price and each next one by step more.
func ladder(n int64, price int64, step int64) []impl.Level {
	var l []impl.Level
	for i := range n {
		l = append(l, level(price+i*step, 5+i%7, 1+i%5))
	}
	return l
}

func mirroredLevels(l []impl.Level) []impl.Level {
	return mirroredList(l, func(x *impl.Level) *int64 { return &x.Price })
}

// exampleBookOfDepths has the asks of the examples of chapter 10.
func exampleBookOfDepths() impl.Book {
	return asks(by(1, 1, 101, 5), by(2, 2, 101, 3), by(3, 3, 103, 4))
}

func exampleLevels() ([]impl.Level, []impl.Level) {
	return levels(level(101, 8, 2), level(103, 4, 1)), levels(level(100, 1, 1), level(103, 2, 1))
}

func TestDepthExamples(t *testing.T) {
	d := impl.Depth(exampleBookOfDepths(), impl.SdSell)
	want, n := exampleLevels()
	if !slices.Equal(d, want) {
		t.Errorf("Depth is %v", d)
	}
	if !impl.LevelsOk(d, impl.SdSell) || impl.LevelsOk(d, impl.SdBuy) {
		t.Error("LevelsOk")
	}
	updates, ok := impl.DepthDelta(d, n, impl.SdSell)
	if !ok || !slices.Equal(updates, levels(removed(101), n[0], n[1])) {
		t.Errorf("DepthDelta is %v, %v", updates, ok)
	}
	if got, ok := impl.DepthApplied(d, updates, impl.SdSell); !ok || !slices.Equal(got, n) {
		t.Errorf("DepthApplied is %v, %v", got, ok)
	}
	for qty, want := range map[int64]int64{0: 0, 9: 911} {
		if got, ok := impl.Cost(d, qty); !ok || got != want {
			t.Errorf("Cost of %d is %d, %v", qty, got, ok)
		}
	}
	if got, ok := impl.Cost(d, 13); ok || got != 0 {
		t.Errorf("Cost of 13 is %d, %v", got, ok)
	}
}

// depthModel looks for the orders of each price from the best one on.
func depthModel(orders []impl.Order) []impl.Level {
	var prices []int64
	for _, o := range orders {
		if !slices.Contains(prices, o.Price) {
			prices = append(prices, o.Price)
		}
	}
	var l []impl.Level
	for _, p := range prices {
		x := impl.Level{Price: p}
		for _, o := range orders {
			if o.Price == p {
				x = level(p, x.Qty+o.Qty, x.Many+1)
			}
		}
		l = append(l, x)
	}
	return l
}

// wantDepths checks the levels of both sides of a valid book, and that they contain all orders.
func wantDepths(t *testing.T, what string, b impl.Book) {
	t.Helper()
	for side, orders := range map[int64][]impl.Order{impl.SdBuy: b.Bids, impl.SdSell: b.Asks} {
		l := impl.Depth(b, side)
		if !slices.Equal(l, depthModel(orders)) || !impl.LevelsOk(l, side) {
			t.Errorf("%s: Depth of side %d of %v is %v", what, side, b, l)
		}
		qty, many := int64(0), int64(0)
		for _, x := range l {
			qty += x.Qty
			many += x.Many
		}
		for _, o := range orders {
			qty -= o.Qty
		}
		if qty != 0 || many != int64(len(orders)) {
			t.Errorf("%s: not all orders of side %d of %v are in %v", what, side, b, l)
		}
	}
}

func TestDepth(t *testing.T) {
	for name, b := range validBooks() {
		wantDepths(t, name, b)
	}
	d := dice(101)
	for i := range 300 {
		wantDepths(t, "random", randomBook(&d, 5, int64(i)%21))
	}
	b := impl.Book{Bids: []impl.Order{by(1, 1, 9, 4), by(2, 2, 8, 1), by(1, 3, 8, 2), by(1, 4, 3, 7)}, Asks: []impl.Order{by(3, 5, 10, 6), by(3, 6, 12, 1)}}
	if l := impl.Depth(b, impl.SdBuy); !slices.Equal(l, levels(level(9, 4, 1), level(8, 3, 2), level(3, 7, 1))) {
		t.Errorf("the levels of the buyers are %v", l)
	}
	if l := impl.Depth(b, impl.SdSell); !slices.Equal(l, levels(level(10, 6, 1), level(12, 1, 1))) {
		t.Errorf("the levels of the sellers are %v", l)
	}
}

func TestDepthOfFullSides(t *testing.T) {
	var one, each []impl.Order
	for i := range int64(20) {
		one = append(one, by(1, 1+i, 500, 1000000))
		each = append(each, by(1, 101+i, 501+i, 1000000))
	}
	b := impl.Book{Bids: one, Asks: each}
	wantDepths(t, "full", b)
	if l := impl.Depth(b, impl.SdBuy); !slices.Equal(l, levels(level(500, 20000000, 20))) {
		t.Errorf("the levels of 20 orders of a price are %v", l)
	}
	if l := impl.Depth(b, impl.SdSell); len(l) != 20 || l[0] != level(501, 1000000, 1) || l[19] != level(520, 1000000, 1) {
		t.Errorf("the levels of 20 orders of different prices are %v", l)
	}
	wantDepths(t, "full, mirrored", mirroredBook(b))
}

func TestDepthOfInvalidBooksAndSides(t *testing.T) {
	for name, b := range invalidBooks() {
		for side := int64(-1); side <= 4; side++ {
			if l := impl.Depth(b, side); len(l) != 0 {
				t.Errorf("%s: Depth of side %d is %v", name, side, l)
			}
		}
	}
	for name, b := range validBooks() {
		for _, side := range append(outside(impl.SdBuy, impl.SdSell), 0, 3) {
			if l := impl.Depth(b, side); len(l) != 0 {
				t.Errorf("%s: Depth of side %d is %v", name, side, l)
			}
		}
	}
}

// wantLevelsOk checks for which sides levels are valid, and mirrored ones for the other sides.
func wantLevelsOk(t *testing.T, what string, l []impl.Level, buyers bool, sellers bool) {
	t.Helper()
	m := mirroredLevels(l)
	for _, x := range []struct {
		l    []impl.Level
		side int64
		want bool
	}{{l, impl.SdBuy, buyers}, {l, impl.SdSell, sellers}, {m, impl.SdBuy, sellers}, {m, impl.SdSell, buyers}} {
		if got := impl.LevelsOk(x.l, x.side); got != x.want {
			t.Errorf("%s: LevelsOk(%v, %d) is %v", what, x.l, x.side, got)
		}
	}
	for _, side := range append(outside(impl.SdBuy, impl.SdSell), 0, 3) {
		if impl.LevelsOk(l, side) {
			t.Errorf("%s: LevelsOk(%v, %d) is true", what, l, side)
		}
	}
}

func TestLevelsInOrder(t *testing.T) {
	wantLevelsOk(t, "nil", nil, true, true)
	wantLevelsOk(t, "none", levels(), true, true)
	wantLevelsOk(t, "one", levels(level(5, 5, 5)), true, true)
	wantLevelsOk(t, "rising", ladder(3, 10, 1), false, true)
	wantLevelsOk(t, "falling", ladder(3, 10, -1), true, false)
	wantLevelsOk(t, "two rising", ladder(2, 10, 5), false, true)
	wantLevelsOk(t, "equal", ladder(2, 10, 0), false, false)
	wantLevelsOk(t, "equal, of equal quantities", levels(level(5, 5, 5), level(5, 5, 5)), false, false)
	wantLevelsOk(t, "extreme", levels(level(1, 1, 1), level(1000000, 1, 1)), false, true)
	for _, x := range []struct {
		prices          []int64
		buyers, sellers bool
	}{
		{[]int64{1, 2, 3, 4}, false, true}, {[]int64{4, 3, 2, 1}, true, false},
		{[]int64{1, 2, 2, 3}, false, false}, {[]int64{1, 1, 2, 3}, false, false}, {[]int64{1, 2, 3, 3}, false, false},
		{[]int64{3, 2, 2, 1}, false, false}, {[]int64{3, 2, 1, 1}, false, false}, {[]int64{3, 3, 2, 1}, false, false},
		{[]int64{2, 1, 3, 4}, false, false}, {[]int64{1, 3, 2, 4}, false, false}, {[]int64{1, 2, 4, 3}, false, false},
		{[]int64{1, 2, 3, 1}, false, false}, {[]int64{1, 2, 1, 2}, false, false}, {[]int64{3, 4, 2, 1}, false, false}, {[]int64{4, 3, 1, 2}, false, false},
	} {
		var l []impl.Level
		for _, p := range x.prices {
			l = append(l, level(p, 7, 2))
		}
		wantLevelsOk(t, "prices", l, x.buyers, x.sellers)
	}
}

func TestManyLevels(t *testing.T) {
	for _, n := range []int64{1, 20, 21, 39, 40} {
		for _, first := range []int64{1, 500, 1000000 - n + 1} {
			wantLevelsOk(t, "up to 40 rising", ladder(n, first, 1), n == 1, true)
		}
		wantLevelsOk(t, "up to 40 falling", ladder(n, 1000000, -1), true, n == 1)
	}
	for _, n := range []int64{41, 42, 80, 1000, 100000} {
		wantLevelsOk(t, "more than 40 rising", ladder(n, 1, 1), false, false)
		wantLevelsOk(t, "more than 40 falling", ladder(n, 1000000, -1), false, false)
	}
}

// levelFields has the ranges of a level's fields, of which that of Qty begins at Many, here 3.
func levelFields() []field[impl.Level] {
	return []field[impl.Level]{
		{"Price", func(x *impl.Level) *int64 { return &x.Price }, 1, 1000000},
		{"Qty", func(x *impl.Level) *int64 { return &x.Qty }, 3, 20000000},
		{"Many", func(x *impl.Level) *int64 { return &x.Many }, 1, 20},
	}
}

// levelsNextToValidOnes returns levels, alone valid or not: one field of each is at its limit, beyond it, or far away.
func levelsNextToValidOnes() (valid []impl.Level, invalid []impl.Level) {
	for _, f := range levelFields() {
		for _, n := range append(outside(f.low, f.high), f.low, f.high) {
			x := level(500, 500, 3)
			*f.at(&x) = n
			if f.low <= n && n <= f.high {
				valid = append(valid, x)
			} else {
				invalid = append(invalid, x)
			}
		}
	}
	for many := int64(1); many <= 20; many++ {
		valid = append(valid, level(500, many, many), level(500, many+1, many), level(500, 20000000, many))
		invalid = append(invalid, level(500, many-1, many), level(500, 20000001, many), level(500, 0, many), level(500, -many, many))
	}
	invalid = append(invalid, level(500, 21, 21), level(500, 20000000, 21), level(500, 0, 0), level(500, 5, 0), level(500, 5, -1), level(500, -5, -5), impl.Level{})
	invalid = append(invalid, level(math.MaxInt64, math.MaxInt64, math.MaxInt64), level(math.MinInt64, math.MinInt64, math.MinInt64))
	return valid, invalid
}

func TestFieldsOfLevels(t *testing.T) {
	valid, invalid := levelsNextToValidOnes()
	for _, x := range valid {
		wantLevelsOk(t, "alone", levels(x), true, true)
	}
	for _, x := range invalid {
		wantLevelsOk(t, "alone", levels(x), false, false)
		for at := range 3 {
			l := ladder(3, 499, 1)
			if x.Price < 1 || x.Price > 1000000 {
				l[at].Price = x.Price
			} else {
				l[at] = level(l[at].Price, x.Qty, x.Many)
			}
			wantLevelsOk(t, "among others", l, false, false)
		}
	}
}

// invalidLevels returns lists that are valid for neither side.
func invalidLevels() [][]impl.Level {
	all := [][]impl.Level{
		ladder(41, 1, 1), ladder(41, 100, -1), ladder(80, 1, 1), ladder(2, 5, 0), ladder(3, 5, 0),
		levels(level(5, 1, 1), level(6, 1, 1), level(6, 1, 1)), levels(level(6, 1, 1), level(5, 1, 1), level(5, 1, 1)),
		levels(level(5, 1, 1), level(7, 1, 1), level(6, 1, 1)), levels(level(7, 1, 1), level(5, 1, 1), level(6, 1, 1)),
	}
	_, invalid := levelsNextToValidOnes()
	for _, x := range invalid {
		all = append(all, levels(x))
		if 1 <= x.Price && x.Price <= 1000000 {
			all = append(all, levels(level(499, 2, 1), x, level(501, 2, 1)), levels(level(502, 2, 1), level(501, 2, 1), x))
		}
	}
	return all
}

// costModel buys single units.
func costModel(l []impl.Level, qty int64) (int64, bool) {
	var units []int64
	for _, x := range l {
		units = append(units, slices.Repeat([]int64{x.Price}, int(x.Qty))...)
	}
	if qty > int64(len(units)) {
		return 0, false
	}
	sum := int64(0)
	for _, price := range units[:qty] {
		sum += price
	}
	return sum, true
}

func wantCost(t *testing.T, what string, l []impl.Level, qty int64, want int64, wantOk bool) {
	t.Helper()
	if got, ok := impl.Cost(l, qty); ok != wantOk || got != want {
		t.Errorf("%s: Cost(%v, %d) is %d, %v, want %d, %v", what, l, qty, got, ok, want, wantOk)
	}
}

func TestCost(t *testing.T) {
	sells := levels(level(101, 8, 2), level(103, 4, 1))
	buys := levels(level(99, 2, 1), level(90, 5, 1), level(1, 1, 1))
	for qty, want := range map[int64]int64{0: 0, 1: 101, 7: 707, 8: 808, 9: 911, 11: 1117, 12: 1220} {
		wantCost(t, "sellers", sells, qty, want, true)
	}
	for qty, want := range map[int64]int64{0: 0, 1: 99, 2: 198, 3: 288, 7: 648, 8: 649} {
		wantCost(t, "buyers", buys, qty, want, true)
	}
	for _, qty := range append(outside(0, 12), 13, -1, 24) {
		wantCost(t, "sellers", sells, qty, 0, false)
	}
	for _, qty := range append(outside(0, 8), 9, -1) {
		wantCost(t, "buyers", buys, qty, 0, false)
	}
}

func TestCostOfFewLevels(t *testing.T) {
	for _, l := range [][]impl.Level{nil, levels()} {
		wantCost(t, "no levels", l, 0, 0, true)
		for _, qty := range append(outside(0, 0), 1, -1) {
			wantCost(t, "no levels", l, qty, 0, false)
		}
	}
	valid, _ := levelsNextToValidOnes()
	for _, x := range valid {
		for qty, want := range map[int64]int64{0: 0, 1: x.Price, x.Qty - 1: x.Price * (x.Qty - 1), x.Qty: x.Price * x.Qty} {
			wantCost(t, "one level", levels(x), qty, want, true)
		}
		wantCost(t, "one level", levels(x), x.Qty+1, 0, false)
		wantCost(t, "one level", levels(x), -1, 0, false)
	}
}

func TestCostOfTheGreatestLevels(t *testing.T) {
	var l []impl.Level
	sum := int64(0)
	for i := range int64(40) {
		l = append(l, level(1000000-i, 20000000, 20))
		sum += (1000000 - i) * 20000000
	}
	wantCost(t, "all", l, 800000000, sum, true)
	wantCost(t, "one less", l, 799999999, sum-999961, true)
	wantCost(t, "one more", l, 800000001, 0, false)
	wantCost(t, "the greatest number", l, math.MaxInt64, 0, false)
	slices.Reverse(l)
	wantCost(t, "all, rising", l, 800000000, sum, true)
	wantCost(t, "one less, rising", l, 799999999, sum-1000000, true)
}

func TestCostOfInvalidLevels(t *testing.T) {
	for _, l := range invalidLevels() {
		for _, qty := range []int64{0, 1, 2, -1, math.MinInt64, math.MaxInt64} {
			wantCost(t, "invalid levels", l, qty, 0, false)
		}
	}
}

func TestCostRandomly(t *testing.T) {
	d := dice(105)
	for range 500 {
		l := randomLevels(&d, 40)
		for range 2 {
			for _, qty := range []int64{0, 1, d.roll(20), d.roll(100), d.roll(300)} {
				want, ok := costModel(l, qty)
				wantCost(t, "random", l, qty, want, ok)
			}
			l = mirroredLevels(l)
		}
	}
}

// What an order without limit pays is the cost of its quantity.
func TestCostIsWhatAnOrderPays(t *testing.T) {
	d := dice(106)
	for range 200 {
		b := randomBook(&d, 5, 12)
		for side := int64(1); side <= 2; side++ {
			qty := 1 + d.roll(30)
			_, recs, left, ok := impl.Matched(b, side, by(90, 999, 0, qty), impl.SpNew)
			paid := int64(0)
			for _, r := range recs {
				paid += r.Price * r.Qty
			}
			got, enough := impl.Cost(impl.Depth(b, 3-side), qty)
			if !ok || enough != (left == 0) || enough && got != paid {
				t.Errorf("an order of %d on side %d of %v pays %d, but its cost is %d, %v", qty, side, b, paid, got, enough)
			}
		}
	}
}

// What the functions on levels are called with.
type depthArgs struct {
	A    []impl.Level
	D    []impl.Level
	Side int64
}

func TestDepthsAreNotChanged(t *testing.T) {
	for _, books := range []map[string]impl.Book{validBooks(), invalidBooks()} {
		for name, b := range books {
			for side := range int64(4) {
				wantKept(t, "Depth: "+name, b, func(b impl.Book) []impl.Level { return impl.Depth(b, side) })
			}
		}
	}
	d := dice(107)
	full := ladder(40, 1, 2)
	all := []depthArgs{{A: full, D: ladder(40, 2, 2)}, {A: full}, {D: full}, {A: ladder(41, 1, 1)}, {A: full, D: levels(removed(1), removed(9), level(3, 1, 1))}, {A: full, D: levels(impl.Level{})}}
	for range 60 {
		all = append(all, depthArgs{A: randomLevels(&d, 20), D: randomUpdates(&d, d.roll(20))}, depthArgs{A: randomLevels(&d, 30), D: randomLevels(&d, 30)})
	}
	for _, x := range all {
		for side := range int64(4) {
			x.Side = side
			wantKept(t, "LevelsOk", x, func(x depthArgs) bool { return impl.LevelsOk(x.A, x.Side) })
			wantKept(t, "DepthDelta", x, func(x depthArgs) []impl.Level {
				l, _ := impl.DepthDelta(x.A, x.D, x.Side)
				return l
			})
			wantKept(t, "DepthApplied", x, func(x depthArgs) []impl.Level {
				l, _ := impl.DepthApplied(x.A, x.D, x.Side)
				return l
			})
			wantKept(t, "Cost", x, func(x depthArgs) bool {
				_, ok := impl.Cost(x.A, 5)
				return ok
			})
		}
	}
}

func TestEqualLevelsYieldEqualResults(t *testing.T) {
	d := dice(108)
	for range 200 {
		b, a, n := randomBook(&d, 5, 20), randomLevels(&d, 40), randomLevels(&d, 40)
		depth := impl.Depth(b, impl.SdBuy)
		delta, _ := impl.DepthDelta(a, n, impl.SdSell)
		applied, _ := impl.DepthApplied(a, delta, impl.SdSell)
		cost, ok := impl.Cost(a, 20)
		kept := deepCopy([][]impl.Level{depth, delta, applied})
		// Other calls in between must not be seen.
		impl.Depth(exampleBookOfDepths(), impl.SdSell)
		impl.DepthDelta(n, a, impl.SdSell)
		impl.DepthApplied(n, randomUpdates(&d, 30), impl.SdSell)
		impl.Cost(n, 7)
		againDelta, _ := impl.DepthDelta(slices.Clone(a), slices.Clone(n), impl.SdSell)
		againApplied, _ := impl.DepthApplied(slices.Clone(a), againDelta, impl.SdSell)
		again := [][]impl.Level{impl.Depth(copyBook(b), impl.SdBuy), againDelta, againApplied}
		for i, want := range kept {
			if !slices.Equal(again[i], want) || !slices.Equal([][]impl.Level{depth, delta, applied}[i], want) {
				t.Errorf("first %v, then %v", want, again[i])
			}
		}
		wantCost(t, "again", slices.Clone(a), 20, cost, ok)
	}
}
