package tests

import (
	"math"
	"slices"
	"testing"

	"loop.example/g00609/impl"
)

// deltaModel compares the levels by their prices.
func deltaModel(a []impl.Level, b []impl.Level) []impl.Level {
	before, after := map[int64]impl.Level{}, map[int64]impl.Level{}
	for _, x := range a {
		before[x.Price] = x
	}
	for _, x := range b {
		after[x.Price] = x
	}
	var l []impl.Level
	for _, x := range a {
		if after[x.Price] == (impl.Level{}) {
			l = append(l, removed(x.Price))
		}
	}
	for _, x := range b {
		if before[x.Price] != x {
			l = append(l, x)
		}
	}
	return l
}

// wantDelta checks the update between levels of sellers, and of mirrored ones, and that it does what it should.
func wantDelta(t *testing.T, what string, a []impl.Level, b []impl.Level, want []impl.Level) {
	t.Helper()
	for side := int64(impl.SdSell); side >= impl.SdBuy; side-- {
		got, ok := impl.DepthDelta(a, b, side)
		if !ok || !slices.Equal(got, want) {
			t.Errorf("%s: DepthDelta(%v, %v, %d) is %v, %v, want %v", what, a, b, side, got, ok, want)
		}
		if n, ok := impl.DepthApplied(a, got, side); !ok || !slices.Equal(n, b) {
			t.Errorf("%s: DepthApplied(%v, %v, %d) is %v, %v, want %v", what, a, got, side, n, ok, b)
		}
		a, b, want = mirroredLevels(a), mirroredLevels(b), mirroredLevels(want)
	}
}

func TestDepthDelta(t *testing.T) {
	d, n := exampleLevels()
	wantDelta(t, "the example", d, n, levels(removed(101), n[0], n[1]))
	wantDelta(t, "back", n, d, levels(removed(100), d[0], d[1]))
	wantDelta(t, "the same", d, d, nil)
	wantDelta(t, "nothing", nil, nil, nil)
	wantDelta(t, "from nothing", nil, d, d)
	wantDelta(t, "to nothing", d, nil, levels(removed(101), removed(103)))
	a := levels(level(5, 6, 3), level(7, 8, 2), level(9, 9, 9))
	wantDelta(t, "another Qty", a, levels(a[0], level(7, 9, 2), a[2]), levels(level(7, 9, 2)))
	wantDelta(t, "another Many", a, levels(a[0], level(7, 8, 3), a[2]), levels(level(7, 8, 3)))
	wantDelta(t, "a level moved", a, levels(a[0], level(8, 8, 2), a[2]), levels(removed(7), level(8, 8, 2)))
	wantDelta(t, "the first one gone", a, a[1:], levels(removed(5)))
	wantDelta(t, "the last one gone", a, a[:2], levels(removed(9)))
	wantDelta(t, "one more at the front", a, append(levels(level(4, 1, 1)), a...), levels(level(4, 1, 1)))
	wantDelta(t, "one more at the end", a, append(slices.Clone(a), level(10, 1, 1)), levels(level(10, 1, 1)))
	wantDelta(t, "quantities exchanged", levels(level(5, 6, 3), level(7, 8, 2)), levels(level(5, 8, 2), level(7, 6, 3)), levels(level(5, 8, 2), level(7, 6, 3)))
	wantDelta(t, "several", a, levels(level(4, 1, 1), level(7, 1, 1), level(8, 2, 1)),
		levels(removed(5), removed(9), level(4, 1, 1), level(7, 1, 1), level(8, 2, 1)))
}

func TestDepthDeltaOf40Levels(t *testing.T) {
	odd, even := ladder(40, 1, 2), ladder(40, 2, 2)
	want := deltaModel(odd, even)
	if len(want) != 80 {
		t.Fatalf("%d updates", len(want))
	}
	wantDelta(t, "40 other levels", odd, even, want)
	wantDelta(t, "40 levels from nothing", nil, odd, odd)
	wantDelta(t, "40 levels to nothing", odd, nil, want[:40])
	wantDelta(t, "40 equal levels", odd, odd, nil)
}

// randomLevels returns levels of sellers, of few prices.
func randomLevels(d *dice, most int64) []impl.Level {
	var l []impl.Level
	n, price := d.roll(most+1), int64(0)
	for range n {
		price += 1 + d.roll(2)
		many := 1 + d.roll(3)
		l = append(l, level(price, many+d.roll(3), many))
	}
	return l
}

func TestDepthDeltaRandomly(t *testing.T) {
	d := dice(102)
	for i := range 1500 {
		a, b := randomLevels(&d, int64(i)%41), randomLevels(&d, int64(i)%41)
		wantDelta(t, "random", a, b, deltaModel(a, b))
	}
}

func TestDepthDeltaOfBooks(t *testing.T) {
	d := dice(103)
	changed := 0
	for range 20 {
		b := randomBook(&d, 3, 15)
		for range 60 {
			n, _ := impl.Exec(b, randomCmd(&d, 3))
			for _, side := range []int64{impl.SdBuy, impl.SdSell} {
				before, after := impl.Depth(b, side), impl.Depth(n, side)
				updates, ok := impl.DepthDelta(before, after, side)
				if !ok || !slices.Equal(updates, deltaModel(before, after)) {
					t.Errorf("DepthDelta(%v, %v, %d) is %v, %v", before, after, side, updates, ok)
				}
				if got, ok := impl.DepthApplied(before, updates, side); !ok || !slices.Equal(got, after) {
					t.Errorf("DepthApplied(%v, %v, %d) is %v, %v", before, updates, side, got, ok)
				}
				changed += len(updates)
			}
			b = n
		}
	}
	if changed == 0 {
		t.Error("no level changed")
	}
}

func wantNoDelta(t *testing.T, what string, a []impl.Level, b []impl.Level, side int64) {
	t.Helper()
	if got, ok := impl.DepthDelta(a, b, side); ok || len(got) != 0 {
		t.Errorf("%s: DepthDelta(%v, %v, %d) is %v, %v", what, a, b, side, got, ok)
	}
}

func wantNotApplied(t *testing.T, what string, a []impl.Level, d []impl.Level, side int64) {
	t.Helper()
	if got, ok := impl.DepthApplied(a, d, side); ok || len(got) != 0 {
		t.Errorf("%s: DepthApplied(%v, %v, %d) is %v, %v", what, a, d, side, got, ok)
	}
}

func TestUpdatesOfInvalidLevels(t *testing.T) {
	for _, l := range invalidLevels() {
		for side := int64(1); side <= 2; side++ {
			for _, other := range [][]impl.Level{nil, levels(level(5, 5, 5)), l} {
				wantNoDelta(t, "from invalid levels", l, other, side)
				wantNoDelta(t, "to invalid levels", other, l, side)
			}
			for _, d := range [][]impl.Level{nil, levels(level(5, 5, 5)), levels(removed(5)), levels(removed(500))} {
				wantNotApplied(t, "to invalid levels", l, d, side)
			}
		}
	}
	// An update would make these valid.
	wantNotApplied(t, "41 levels, of which one is removed", ladder(41, 1, 1), levels(removed(41)), impl.SdSell)
	wantNotApplied(t, "a level that is replaced", levels(level(5, 0, 1)), levels(level(5, 1, 1)), impl.SdSell)
	wantNotApplied(t, "a level that is removed", levels(level(5, 21, 21)), levels(removed(5)), impl.SdBuy)
}

func TestUpdatesOfTheWrongSide(t *testing.T) {
	rising, falling := ladder(3, 10, 1), ladder(3, 10, -1)
	wantNoDelta(t, "rising", rising, nil, impl.SdBuy)
	wantNoDelta(t, "rising", nil, rising, impl.SdBuy)
	wantNoDelta(t, "falling", falling, nil, impl.SdSell)
	wantNoDelta(t, "falling", nil, falling, impl.SdSell)
	wantNoDelta(t, "both", rising, falling, impl.SdSell)
	wantNoDelta(t, "both", rising, falling, impl.SdBuy)
	wantNotApplied(t, "rising", rising, nil, impl.SdBuy)
	wantNotApplied(t, "falling", falling, nil, impl.SdSell)
	for _, side := range append(outside(impl.SdBuy, impl.SdSell), 0, 3) {
		for _, l := range [][]impl.Level{nil, levels(level(5, 5, 5)), rising, falling} {
			wantNoDelta(t, "no side", l, l, side)
			wantNoDelta(t, "no side", nil, l, side)
			wantNotApplied(t, "no side", l, nil, side)
			wantNotApplied(t, "no side", nil, l, side)
			wantNotApplied(t, "no side", l, levels(removed(5)), side)
		}
	}
}

// appliedModel keeps the levels by their prices.
func appliedModel(a []impl.Level, d []impl.Level, side int64) []impl.Level {
	all := map[int64]impl.Level{}
	for _, x := range slices.Concat(a, d) {
		all[x.Price] = x
	}
	var l []impl.Level
	for _, x := range all {
		if x.Qty > 0 {
			l = append(l, x)
		}
	}
	slices.SortFunc(l, func(x, y impl.Level) int {
		if side == impl.SdBuy {
			return int(y.Price - x.Price)
		}
		return int(x.Price - y.Price)
	})
	return l
}

// wantApplied checks what an update does to levels of sellers, and a mirrored one to mirrored ones.
func wantApplied(t *testing.T, what string, a []impl.Level, d []impl.Level, want []impl.Level) {
	t.Helper()
	for side := int64(impl.SdSell); side >= impl.SdBuy; side-- {
		if len(want) > 40 {
			wantNotApplied(t, what, a, d, side)
		} else if got, ok := impl.DepthApplied(a, d, side); !ok || !slices.Equal(got, want) || !impl.LevelsOk(got, side) {
			t.Errorf("%s: DepthApplied(%v, %v, %d) is %v, %v, want %v", what, a, d, side, got, ok, want)
		}
		a, d, want = mirroredLevels(a), mirroredLevels(d), mirroredLevels(want)
	}
}

func TestDepthApplied(t *testing.T) {
	a := levels(level(5, 6, 3), level(7, 8, 2), level(9, 9, 9))
	wantApplied(t, "nothing", a, nil, a)
	wantApplied(t, "nothing to nothing", nil, nil, nil)
	wantApplied(t, "in between", a, levels(level(6, 1, 1)), levels(a[0], level(6, 1, 1), a[1], a[2]))
	wantApplied(t, "in between, further on", a, levels(level(8, 1, 1)), levels(a[0], a[1], level(8, 1, 1), a[2]))
	wantApplied(t, "at the front", a, levels(level(1, 1, 1)), levels(level(1, 1, 1), a[0], a[1], a[2]))
	wantApplied(t, "at the end", a, levels(level(1000000, 1, 1)), levels(a[0], a[1], a[2], level(1000000, 1, 1)))
	wantApplied(t, "to nothing", nil, levels(level(6, 1, 1)), levels(level(6, 1, 1)))
	for at, x := range a {
		n := level(x.Price, 20, 4)
		want := slices.Clone(a)
		want[at] = n
		wantApplied(t, "a level replaced", a, levels(n), want)
		wantApplied(t, "a level replaced by itself", a, levels(x), a)
		wantApplied(t, "a level removed", a, levels(removed(x.Price)), slices.Delete(slices.Clone(a), at, at+1))
	}
	wantApplied(t, "all removed", a, levels(removed(7), removed(9), removed(5)), nil)
	for _, price := range []int64{1, 4, 6, 8, 10, 999999, 1000000} {
		wantApplied(t, "a removal of a price that is not there", a, levels(removed(price)), a)
		wantApplied(t, "a removal from nothing", nil, levels(removed(price)), nil)
	}
	wantApplied(t, "in no order", nil, levels(level(5, 1, 1), level(9, 1, 1), level(1, 1, 1), level(7, 2, 2)),
		levels(level(1, 1, 1), level(5, 1, 1), level(7, 2, 2), level(9, 1, 1)))
}

func TestUpdatesOfOnePriceTwice(t *testing.T) {
	a := levels(level(5, 6, 3), level(9, 9, 9))
	one, two, other := level(7, 1, 1), level(7, 2, 2), level(5, 4, 4)
	wantApplied(t, "inserted, then replaced", a, levels(one, two), levels(a[0], two, a[1]))
	wantApplied(t, "inserted, then replaced by the first one", a, levels(one, two, one), levels(a[0], one, a[1]))
	wantApplied(t, "inserted twice", a, levels(one, one), levels(a[0], one, a[1]))
	wantApplied(t, "inserted, then removed", a, levels(one, removed(7)), a)
	wantApplied(t, "removed, then inserted", a, levels(removed(7), one), levels(a[0], one, a[1]))
	wantApplied(t, "removed, then inserted again", a, levels(removed(5), other), levels(other, a[1]))
	wantApplied(t, "replaced, then removed", a, levels(other, removed(5)), a[1:])
	wantApplied(t, "replaced twice", a, levels(level(5, 7, 7), other), levels(other, a[1]))
	wantApplied(t, "removed twice", a, levels(removed(5), removed(5)), a[1:])
	wantApplied(t, "inserted, removed and inserted", a, levels(one, removed(7), two), levels(a[0], two, a[1]))
	wantApplied(t, "removed, inserted and removed", a, levels(removed(9), one, level(9, 1, 1), removed(9), removed(7)), a[:1])
}

func TestUpdatesOf80Levels(t *testing.T) {
	a := ladder(3, 100, 5)
	for _, x := range []impl.Level{removed(1), removed(105), level(105, 9, 9), level(107, 1, 1)} {
		for _, n := range []int{1, 40, 41, 79, 80} {
			d := slices.Repeat(levels(x), n)
			wantApplied(t, "up to 80 updates", a, d, appliedModel(a, d, impl.SdSell))
		}
		for _, n := range []int{81, 82, 160, 10000} {
			d := slices.Repeat(levels(x), n)
			wantNotApplied(t, "more than 80 updates", a, d, impl.SdSell)
			wantNotApplied(t, "more than 80 updates", mirroredLevels(a), mirroredLevels(d), impl.SdBuy)
		}
	}
}

func removals(l []impl.Level) []impl.Level {
	var out []impl.Level
	for _, x := range l {
		out = append(out, removed(x.Price))
	}
	return out
}

func TestUpdatesTo40Levels(t *testing.T) {
	odd, even := ladder(40, 1, 2), ladder(40, 2, 2)
	for n := range int64(41) {
		for _, more := range []int64{0, 1, 39 - n, 40 - n, 41 - n, 40} {
			if more >= 0 && more <= 40 {
				d := even[:more]
				wantApplied(t, "inserted", odd[:n], d, appliedModel(odd[:n], d, impl.SdSell))
			}
		}
	}
	wantNotApplied(t, "the 41st level at the end", odd, levels(level(1000, 1, 1)), impl.SdSell)
	wantNotApplied(t, "41 levels from nothing", nil, ladder(41, 1, 1), impl.SdSell)
	wantNotApplied(t, "80 levels from nothing", nil, ladder(80, 1, 1), impl.SdSell)
	wantApplied(t, "40 levels from nothing", nil, odd, odd)
	wantApplied(t, "a level of 40 replaced", odd, levels(level(39, 19, 19)), appliedModel(odd, levels(level(39, 19, 19)), impl.SdSell))
}

// While an update is applied, there may be more than 40 levels.
func TestUpdatesToMoreThan40LevelsOnTheWay(t *testing.T) {
	odd, even := ladder(40, 1, 2), ladder(40, 2, 2)
	wantApplied(t, "40 inserted, then as many removed", odd, slices.Concat(even, removals(odd)), even)
	wantApplied(t, "40 inserted and removed again", odd, slices.Concat(even, removals(even)), odd)
	wantApplied(t, "one inserted, then another one removed", odd, levels(even[3], removed(1)), appliedModel(odd, levels(even[3], removed(1)), impl.SdSell))
	wantApplied(t, "41 from nothing, then one removed", nil, append(ladder(41, 1, 1), removed(41)), ladder(40, 1, 1))
	wantNotApplied(t, "two inserted, then one removed", odd, levels(even[3], even[4], removed(1)), impl.SdSell)
}

func TestInvalidUpdates(t *testing.T) {
	var bad []impl.Level
	_, invalid := levelsNextToValidOnes()
	for _, x := range invalid {
		if x != removed(500) {
			bad = append(bad, x)
		}
	}
	for _, price := range append(outside(1, 1000000), 0, 1000001) {
		bad = append(bad, removed(price), level(price, 1, 1))
	}
	for _, n := range []int64{1, 2, 20, 21, -1, math.MaxInt64, math.MinInt64} {
		bad = append(bad, level(500, 0, n), level(500, n, 0), level(101, 0, n), level(101, n, 0))
	}
	a, good := ladder(3, 100, 1), level(105, 1, 1)
	for _, x := range bad {
		for side, a := range map[int64][]impl.Level{impl.SdSell: a, impl.SdBuy: mirroredLevels(a)} {
			for _, d := range [][]impl.Level{levels(x), levels(x, good), levels(good, x), levels(good, x, good), levels(removed(500), x, removed(500)), levels(x, level(500, 1, 1)), levels(x, removed(500))} {
				wantNotApplied(t, "an invalid update", a, d, side)
				wantNotApplied(t, "an invalid update", nil, d, side)
			}
		}
	}
}

func TestUpdatesAtTheLimits(t *testing.T) {
	valid, _ := levelsNextToValidOnes()
	for _, x := range append(valid, removed(1), removed(1000000), removed(500)) {
		for _, a := range [][]impl.Level{nil, levels(level(500, 3, 3)), levels(level(1, 1, 1), level(1000000, 1, 1))} {
			wantApplied(t, "an update at a limit", a, levels(x), appliedModel(a, levels(x), impl.SdSell))
		}
	}
}

// randomUpdates returns valid updates of levels, in no order, of few prices.
func randomUpdates(d *dice, n int64) []impl.Level {
	var l []impl.Level
	for range n {
		x := level(1+d.roll(70), 5+d.roll(3), 1+d.roll(5))
		if d.roll(5) < 2 {
			x = removed(x.Price)
		}
		l = append(l, x)
	}
	return l
}

func TestDepthAppliedRandomly(t *testing.T) {
	d := dice(104)
	tooMany := 0
	for i := range 2000 {
		a, u := randomLevels(&d, 1+int64(i)%40), randomUpdates(&d, d.roll(81))
		want := appliedModel(a, u, impl.SdSell)
		wantApplied(t, "random", a, u, want)
		if len(want) > 40 {
			tooMany++
		}
	}
	if tooMany < 20 || tooMany > 1900 {
		t.Errorf("%d of the results had more than 40 levels", tooMany)
	}
}
