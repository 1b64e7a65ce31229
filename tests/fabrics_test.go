package tests

import (
	"fmt"
	"math"
	"slices"
	"testing"

	"loop.example/g00609/impl"
)

func newFabric(t *testing.T, l []impl.Cmd, shards int64, owner []int64, plan ...impl.Move) impl.Fabric {
	t.Helper()
	f, ok := impl.FabricNew(l, shards, owner, plan)
	if !ok {
		t.Fatalf("no fabric of %d commands, %d shards, the owners %v, the plan %v", len(l), shards, owner, plan)
	}
	return f
}

// fabricCmds are the commands of the examples of chapter 7.
func fabricCmds() []impl.Cmd {
	return []impl.Cmd{
		buys(1, 1, 100, 5), inBook(1, sells(1, 1, 100, 5)), sells(2, 2, 100, 3), {}, wide(impl.CkMass, 1),
		buys(1, 7, 100, 5), inBook(1, buys(2, 8, 90, 5)), wide(impl.CkBlock, 1), buys(1, 9, 100, 5),
	}
}

// allZero is a list of owners.
func allZero() []int64 {
	return make([]int64, 4)
}

func repeated[T any](x T, n int) []T {
	return slices.Repeat([]T{x}, n)
}

func wantRunnable(t *testing.T, what string, f impl.Fabric, want ...int64) {
	t.Helper()
	if l := impl.Runnable(f); !slices.Equal(l, want) {
		t.Errorf("%s: runnable %v, want %v", what, l, want)
	}
	if impl.Ended(f) != (len(want) == 0) {
		t.Errorf("%s: ended %v", what, impl.Ended(f))
	}
}

// picked performs steps that have to be possible.
func picked(t *testing.T, f impl.Fabric, l ...int64) impl.Fabric {
	t.Helper()
	for i, who := range l {
		n, ok := impl.Pick(f, who)
		if !ok {
			t.Fatalf("step %d of %v is not possible", i, l)
		}
		f = n
	}
	return f
}

// stampsIn returns the stamps in the inbox of each shard.
func stampsIn(f impl.Fabric) [][]int64 {
	var all [][]int64
	for _, s := range f.Shards {
		l := []int64{}
		for _, i := range s.Inbox {
			l = append(l, i.Stamp)
		}
		all = append(all, l)
	}
	return all
}

func wantStampsIn(t *testing.T, what string, f impl.Fabric, want ...[]int64) {
	t.Helper()
	if l := stampsIn(f); !slices.EqualFunc(l, want, slices.Equal[[]int64]) {
		t.Errorf("%s: the inboxes have the stamps %v, want %v", what, l, want)
	}
}

// wantFolded checks that a fabric has ended, and that its tape and its engines are those of the fold.
func wantFolded(t *testing.T, what string, f impl.Fabric, l []impl.Cmd) {
	t.Helper()
	e, want := impl.Fold(l)
	if tape := impl.TapeOf(f); !impl.Ended(f) || !slices.Equal(tape, want) {
		t.Errorf("%s: ended %v, the tape is\n%v, not\n%v", what, impl.Ended(f), tape, want)
	}
	for i, s := range f.Shards {
		of := withBlocked(engineOf(), e.Blocked...)
		for sym, owner := range f.Owner {
			if owner == int64(i) {
				of.Books[sym] = e.Books[sym]
			}
		}
		if !sameEngine(s.E, of) {
			t.Errorf("%s: the engine of shard %d is %v, not %v", what, i, s.E, of)
		}
	}
}

func TestFabricExample(t *testing.T) {
	l := fabricCmds()
	move := impl.Move{After: 1, Sym: 0, To: 1}
	f := newFabric(t, l, 2, []int64{0, 1, 0, 0}, move)
	wantRunnable(t, "new", f, 0)
	f = picked(t, f, 0)
	wantRunnable(t, "a command was sent", f, 1)
	wantStampsIn(t, "a command was sent", f, []int64{1}, nil)
	if n, ok := impl.Pick(f, 0); ok || !isEmptyFabric(n) || f.Next != 1 {
		t.Errorf("the router does not wait: %v", n)
	}
	f = picked(t, f, 1)
	wantRunnable(t, "a command was executed", f, 0)
	f = picked(t, f, 0)
	if f.Owner[0] != 1 || len(f.Plan) != 0 || f.Next != 1 {
		t.Errorf("the book is not moved: %v", f)
	}
	wantIds(t, "the book at its new owner", f.Shards[1].E.Books[0].Bids, 1)
	wantIds(t, "the book at its old owner", f.Shards[0].E.Books[0].Bids)
	wantRunnable(t, "the book is moved", f, 0)
	if recs := impl.TapeOf(f); len(recs) != 0 {
		t.Errorf("the tape of a fabric that is not ended: %v", recs)
	}
	wantFolded(t, "finished", impl.Finish(f), l)
	if n, steps := impl.PickAll(f, []int64{5, 1, 0, 2, 2, 0}); steps != 3 || n.Next != 3 {
		t.Errorf("%d steps, %v", steps, n)
	}
}

func TestFabricNew(t *testing.T) {
	plan := []impl.Move{
		{}, {After: 1, Sym: 2, To: 3}, {After: -1, Sym: -1, To: -1}, {After: 1, Sym: 2, To: 3},
		{After: math.MaxInt64, Sym: math.MaxInt64, To: math.MaxInt64}, {After: math.MinInt64, Sym: math.MinInt64, To: math.MinInt64},
	}
	cmds := append(fabricCmds(), impl.Cmd{Kind: -7, Sym: 99, Acct: math.MinInt64, Mode: math.MaxInt64})
	for shards := int64(1); shards <= 4; shards++ {
		for _, owner := range [][]int64{{0, 0, 0, 0}, {shards - 1, 0, 0, 0}, {0, 0, shards - 1, shards - 1}} {
			want := impl.Fabric{Cmds: cmds, Plan: plan, Owner: owner, Shards: repeated(impl.Shard{E: engineOf()}, int(shards))}
			if f, ok := impl.FabricNew(cmds, shards, owner, plan); !ok || !sameFabric(f, want) {
				t.Errorf("%d shards, owners %v: %v %v", shards, owner, ok, f)
			}
		}
	}
}

func TestFabricNewAtTheLimits(t *testing.T) {
	try := func(what string, want bool, cmds int, shards int64, owner []int64, moves int) {
		t.Helper()
		f, ok := impl.FabricNew(differentCmds(int64(cmds)), shards, owner, repeated(impl.Move{After: 99, Sym: 7}, moves))
		if ok != want || !ok && !isEmptyFabric(f) {
			t.Errorf("%s: %v %v", what, ok, f)
		}
		if ok && (len(f.Cmds) != cmds || len(f.Plan) != moves || int64(len(f.Shards)) != shards || !validFabric(f)) {
			t.Errorf("%s: %v", what, f)
		}
	}
	for _, n := range []int{0, 1, 59, 60, 61, 62, 120, 200, 316} {
		try(fmt.Sprint(n, " commands"), n <= 60, n, 2, allZero(), 3)
	}
	for _, n := range []int{0, 1, 19, 20, 21, 22, 60, 276} {
		try(fmt.Sprint(n, " moves"), n <= 20, 5, 2, allZero(), n)
	}
	for n := int64(1); n <= 4; n++ {
		try(fmt.Sprint(n, " shards"), true, 5, n, allZero(), 3)
	}
	for _, n := range append(outside(1, 4), 0, 5, 6, 260) {
		try(fmt.Sprint(n, " shards"), false, 5, n, allZero(), 3)
	}
	for _, n := range []int{0, 1, 3, 4, 5, 8, 260} {
		try(fmt.Sprint(n, " owners"), n == 4, 5, 2, make([]int64, n), 3)
	}
	try("all limits", true, 60, 4, []int64{3, 3, 3, 3}, 20)
}

func TestFabricNewChecksTheOwners(t *testing.T) {
	for shards := int64(1); shards <= 4; shards++ {
		for sym := range 4 {
			for _, n := range append(outside(0, shards-1), shards, -1, 4, 0, shards-1) {
				owner := allZero()
				owner[sym] = n
				f, ok := impl.FabricNew(fabricCmds(), shards, owner, nil)
				if want := n >= 0 && n < shards; ok != want || !ok && !isEmptyFabric(f) {
					t.Errorf("%d shards, owners %v: %v %v", shards, owner, ok, f)
				}
			}
		}
	}
}

// begunFabric has items in all inboxes, and outputs; finishedFabric has ended, and its tape has records.
func begunFabric(t *testing.T) impl.Fabric {
	f := newFabric(t, fabricCmds(), 3, []int64{0, 1, 2, 0}, impl.Move{After: 9, Sym: 0, To: 1})
	return picked(t, f, 0, 0, 0, 1, 2, 0, 0)
}

func finishedFabric(t *testing.T) impl.Fabric {
	return impl.Finish(newFabric(t, fabricCmds(), 3, []int64{0, 1, 2, 0}, impl.Move{After: 4, Sym: 0, To: 1}))
}

// spoilers returns changes, each of which makes a fabric of 9 commands and 3 shards not valid.
func spoilers() map[string]func(f *impl.Fabric) {
	l := map[string]func(f *impl.Fabric){
		"61 commands":         func(f *impl.Fabric) { f.Cmds = differentCmds(61) },
		"61 commands, ended":  func(f *impl.Fabric) { f.Cmds, f.Next = differentCmds(61), 61 },
		"200 commands":        func(f *impl.Fabric) { f.Cmds = differentCmds(200) },
		"21 moves":            func(f *impl.Fabric) { f.Plan = repeated(impl.Move{After: 99}, 21) },
		"276 moves":           func(f *impl.Fabric) { f.Plan = repeated(impl.Move{After: 99}, 276) },
		"no owners":           func(f *impl.Fabric) { f.Owner = nil },
		"three owners":        func(f *impl.Fabric) { f.Owner = make([]int64, 3) },
		"five owners":         func(f *impl.Fabric) { f.Owner = make([]int64, 5) },
		"no shards":           func(f *impl.Fabric) { f.Shards = nil },
		"one shard too few":   func(f *impl.Fabric) { f.Shards = f.Shards[:2] },
		"five shards":         func(f *impl.Fabric) { f.Shards = append(f.Shards, f.Shards[1:]...) },
		"only the zero shard": func(f *impl.Fabric) { f.Shards, f.Owner = make([]impl.Shard, 1), allZero() },
	}
	for _, n := range append(outside(0, 9), -1, 10) {
		l[fmt.Sprint("Next ", n)] = func(f *impl.Fabric) { f.Next = n }
	}
	for _, n := range outside(0, 2) {
		for sym := range 4 {
			l[fmt.Sprint("book ", sym, " of owner ", n)] = func(f *impl.Fabric) { f.Owner[sym] = n }
		}
	}
	for shard := range 3 {
		l[fmt.Sprint("61 items for shard ", shard)] = func(f *impl.Fabric) { f.Shards[shard].Inbox = make([]impl.Item, 61) }
		l[fmt.Sprint("316 items for shard ", shard)] = func(f *impl.Fabric) { f.Shards[shard].Inbox = make([]impl.Item, 316) }
		l[fmt.Sprint("61 outputs of shard ", shard)] = func(f *impl.Fabric) { f.Shards[shard].Out = make([]impl.Frag, 61) }
		l[fmt.Sprint("316 outputs of shard ", shard)] = func(f *impl.Fabric) { f.Shards[shard].Out = make([]impl.Frag, 316) }
	}
	for name, e := range invalidEngines() {
		shard := len(l) % 3
		l[fmt.Sprint("an engine in shard ", shard, ": ", name)] = func(f *impl.Fabric) { f.Shards[shard].E = e }
	}
	for _, name := range []string{"zero", "five books", "falling accounts", "blocked, with order a in book 2"} {
		for shard := range 3 {
			l[fmt.Sprint("engine ", name, " in shard ", shard)] = func(f *impl.Fabric) { f.Shards[shard].E = invalidEngines()[name] }
		}
	}
	return l
}

func wantNotValid(t *testing.T, what string, f impl.Fabric) {
	t.Helper()
	if l := impl.Runnable(f); len(l) != 0 {
		t.Errorf("%s: runnable %v", what, l)
	}
	for _, who := range []int64{0, 1, 2, 3, 4, 5, -1, math.MinInt64, math.MaxInt64} {
		if n, ok := impl.Pick(f, who); ok || !isEmptyFabric(n) {
			t.Errorf("%s: Pick of %d: %v %v", what, who, ok, n)
		}
	}
	for _, l := range [][]int64{nil, {0}, {9}, {1, 2, 3, 0}, make([]int64, 700)} {
		if n, steps := impl.PickAll(f, l); steps != -1 || !isEmptyFabric(n) {
			t.Errorf("%s: PickAll of %d elements: %d %v", what, len(l), steps, n)
		}
	}
	if impl.Ended(f) || !isEmptyFabric(impl.Finish(f)) || len(impl.TapeOf(f)) != 0 {
		t.Errorf("%s: %v %v %v", what, impl.Ended(f), impl.Finish(f), impl.TapeOf(f))
	}
}

func TestInvalidFabrics(t *testing.T) {
	wantNotValid(t, "zero", impl.Fabric{})
	wantNotValid(t, "zero, with shards", impl.Fabric{Shards: make([]impl.Shard, 2)})
	begun, finished := begunFabric(t), finishedFabric(t)
	wantRunnable(t, "begun", begun, 0, 1, 2, 3)
	wantRunnable(t, "finished", finished)
	for name, spoil := range spoilers() {
		for _, f := range []impl.Fabric{begun, finished} {
			n := deepCopy(f)
			if spoil(&n); validFabric(n) {
				t.Fatalf("%s: valid", name)
			}
			wantNotValid(t, name, n)
		}
	}
}

// wantAsModel performs everything with a fabric and its model.
func wantAsModel(t *testing.T, what string, f impl.Fabric, l []int64) {
	t.Helper()
	wantRunnable(t, what, f, networkOf(f).runnable()...)
	for who := int64(-1); who <= 6; who++ {
		m := networkOf(f)
		want := m.step(who)
		n, ok := impl.Pick(f, who)
		if ok != want || ok && !sameFabric(n, m.fabric()) || !ok && !isEmptyFabric(n) {
			t.Errorf("%s: Pick of %d of\n%v yields %v\n%v, not %v\n%v", what, who, f, ok, n, want, m.fabric())
		}
	}
	m := networkOf(f)
	want := m.stepAll(l)
	if n, steps := impl.PickAll(f, l); steps != want || !sameFabric(n, m.fabric()) {
		t.Errorf("%s: PickAll of %v of\n%v yields %d\n%v, not %d\n%v", what, l, f, steps, n, want, m.fabric())
	}
	m = networkOf(f)
	m.finish()
	n := impl.Finish(f)
	if !sameFabric(n, m.fabric()) {
		t.Errorf("%s: Finish of\n%v yields\n%v, not\n%v", what, f, n, m.fabric())
	}
	wantTapeAsModel(t, what, f)
	wantTapeAsModel(t, what, n)
}

func wantTapeAsModel(t *testing.T, what string, f impl.Fabric) {
	t.Helper()
	m := networkOf(f)
	var want []impl.Rec
	ended := validFabric(f) && len(m.runnable()) == 0
	if ended {
		want = m.tape()
	}
	if tape := impl.TapeOf(f); impl.Ended(f) != ended || !slices.Equal(tape, want) {
		t.Errorf("%s: ended %v, the tape of\n%v is\n%v, not\n%v", what, impl.Ended(f), f, tape, want)
	}
}

// mixed is a list of steps, of which all are possible at some time.
func mixed(d *dice, n int) []int64 {
	var l []int64
	for range n {
		l = append(l, d.roll(7)-1)
	}
	return l
}

func TestValidFabricsAtTheLimits(t *testing.T) {
	d := dice(70)
	for shards := int64(1); shards <= 4; shards++ {
		f := newFabric(t, differentCmds(60), shards, repeated(shards-1, 4), repeated(impl.Move{After: 99}, 20)...)
		wantAsModel(t, "60 commands, 20 moves", f, mixed(&d, 100))
		for _, next := range []int64{0, 1, 59, 60} {
			n := deepCopy(f)
			n.Next = next
			wantAsModel(t, fmt.Sprint("Next ", next), n, mixed(&d, 100))
		}
		for i := range f.Shards {
			n := deepCopy(f)
			n.Shards[i].Inbox = repeated(impl.Item{Stamp: 7, C: wide(impl.CkFree, 9)}, 60)
			wantAsModel(t, "60 items", n, mixed(&d, 100))
			n.Shards[i].Inbox, n.Shards[i].Out = nil, repeated(impl.Frag{Stamp: 3, Shard: int64(i), Recs: withStamp(matchRecs(), 3)}, 60)
			wantAsModel(t, "60 outputs", n, mixed(&d, 100))
			n.Next = 60
			wantRunnable(t, "60 outputs, and ended", n)
			wantTapeAsModel(t, "60 outputs, and ended", n)
		}
	}
	f := impl.Fabric{Owner: allZero(), Shards: []impl.Shard{{E: engineOf()}}}
	wantRunnable(t, "no commands", f)
	wantAsModel(t, "no commands", f, []int64{0, 1})
}

func matchRecs() []impl.Rec {
	return []impl.Rec{ack(bid4), fill(bid4, ask1, 2), gone(ask2, 1)}
}

// A step can make a fabric invalid, which only the next call sees.
func TestFabricsAreCheckedOnce(t *testing.T) {
	l := []impl.Cmd{buys(1, 1, 100, 5), buys(1, 2, 100, 5), wide(impl.CkMass, 1)}
	f := newFabric(t, l, 2, allZero())
	f.Shards[0].Inbox = repeated(impl.Item{Stamp: 1, C: wide(impl.CkFree, 9)}, 60)
	n := picked(t, f, 0)
	wantStampsIn(t, "the 61st item", n, append(repeated(int64(1), 60), 1), nil)
	wantNotValid(t, "the 61st item", n)
	n, steps := impl.PickAll(f, []int64{0, 0, 0, 1, 2})
	if steps != 5 || len(n.Shards[0].Inbox) != 62 || len(n.Shards[0].Out) != 1 {
		t.Errorf("%d steps, %v", steps, n)
	}
	n = impl.Finish(f)
	if len(n.Shards[0].Out) != 63 || len(n.Shards[0].Inbox) != 0 || n.Next != 3 {
		t.Errorf("%v", n)
	}
	wantNotValid(t, "63 outputs", n)

	// Book 0 goes to a shard in which the account of its orders is blocked.
	f = newFabric(t, l, 2, allZero(), impl.Move{After: 0, Sym: 0, To: 1})
	f.Shards[0].E = tradeEngine()
	f.Shards[0].E.Books[0] = impl.Book{Asks: []impl.Order{by(8, 50, 101, 4), by(1, 51, 102, 4)}}
	f.Shards[1].E = withBlocked(engineOf(), 1, 8)
	n = picked(t, f, 0)
	wantIds(t, "the book has moved", n.Shards[1].E.Books[0].Asks, 50, 51)
	wantNotValid(t, "a blocked account has orders", n)
	n, steps = impl.PickAll(f, []int64{0, 0, 2, 0, 2})
	if steps != 5 || len(n.Shards[1].Out) != 2 || n.Shards[1].Out[1].Recs[0].Other != impl.RcBlocked {
		t.Errorf("%d steps, %v", steps, n)
	}
	n = impl.Finish(f)
	wantIds(t, "after the mass cancellation", n.Shards[1].E.Books[0].Asks, 50)
	wantNotValid(t, "a blocked account has an order", n)
}

// busy returns a fabric of 3 shards and the owners 0, 1, 2, 0, in which some shards have an item.
func busy(t *testing.T, plan []impl.Move, shards ...int) impl.Fabric {
	t.Helper()
	f := newFabric(t, fabricCmds(), 3, []int64{0, 1, 2, 0}, plan...)
	for _, i := range shards {
		f.Shards[i].Inbox = []impl.Item{{Stamp: 1, C: inBook(3, buys(50, 500, 7, 1))}}
	}
	return f
}

func TestRunnableShards(t *testing.T) {
	for _, l := range [][]int{nil, {0}, {1}, {2}, {0, 1}, {0, 2}, {1, 2}, {0, 1, 2}} {
		var want []int64
		for _, i := range l {
			want = append(want, int64(i+1))
		}
		f := busy(t, nil, l...)
		wantRunnable(t, "commands are left", f, append([]int64{0}, want...)...)
		f.Next = 8
		wantRunnable(t, "a command is left", f, append([]int64{0}, want...)...)
		f.Next = 9
		wantRunnable(t, "no command is left", f, want...)
		f.Plan = []impl.Move{{After: 8, Sym: 0, To: 1}, {After: 10, Sym: 0, To: 1}, {After: -1, Sym: 0, To: 1}}
		wantRunnable(t, "no command is left, and no move is due", f, want...)
	}
}

func TestDueMovesWait(t *testing.T) {
	for _, x := range []struct {
		what  string
		m     impl.Move
		busy  []int
		waits bool
	}{
		{"nobody is busy", impl.Move{Sym: 0, To: 1}, nil, false},
		{"another shard is busy", impl.Move{Sym: 0, To: 1}, []int{2}, false},
		{"the owner is busy", impl.Move{Sym: 0, To: 1}, []int{0}, true},
		{"the shard To is busy", impl.Move{Sym: 0, To: 1}, []int{1}, true},
		{"both are busy", impl.Move{Sym: 0, To: 1}, []int{0, 1}, true},
		{"all are busy", impl.Move{Sym: 0, To: 1}, []int{0, 1, 2}, true},
		{"the owner 2 is busy", impl.Move{Sym: 2, To: 0}, []int{2}, true},
		{"the shard 0 is busy", impl.Move{Sym: 2, To: 0}, []int{0}, true},
		{"neither 2 nor 0 is busy", impl.Move{Sym: 2, To: 0}, []int{1}, false},
		{"the last book, of a busy owner", impl.Move{Sym: 3, To: 2}, []int{0}, true},
		{"the last book, to a busy shard", impl.Move{Sym: 3, To: 2}, []int{2}, true},
		{"the last book, past a busy shard", impl.Move{Sym: 3, To: 2}, []int{1}, false},
		{"to the owner, which is busy", impl.Move{Sym: 1, To: 1}, []int{1}, true},
		{"to the owner, others are busy", impl.Move{Sym: 1, To: 1}, []int{0, 2}, false},
		{"to no shard, all are busy", impl.Move{Sym: 0, To: 3}, []int{0, 1, 2}, false},
		{"to shard -1, all are busy", impl.Move{Sym: 0, To: -1}, []int{0, 1, 2}, false},
		{"of no book, all are busy", impl.Move{Sym: 4, To: 1}, []int{0, 1, 2}, false},
		{"of book -1, all are busy", impl.Move{Sym: -1, To: 1}, []int{0, 1, 2}, false},
		{"of nothing, all are busy", impl.Move{Sym: math.MaxInt64, To: math.MinInt64}, []int{0, 1, 2}, false},
	} {
		for _, next := range []int64{0, 5, 9} {
			x.m.After = next
			f := busy(t, []impl.Move{{After: 10, Sym: 1, To: 2}, x.m, {After: next, Sym: 2, To: 2}}, x.busy...)
			f.Next = next
			n, ok := impl.Pick(f, 0)
			if ok == x.waits || slices.Contains(impl.Runnable(f), 0) != ok || impl.Ended(f) {
				t.Errorf("%s, after %d: performed %v, runnable %v", x.what, next, ok, impl.Runnable(f))
			}
			if ok && (n.Next != next || !slices.Equal(n.Plan, []impl.Move{f.Plan[0], f.Plan[2]})) {
				t.Errorf("%s, after %d: Next %d, plan %v", x.what, next, n.Next, n.Plan)
			}
			wantAsModel(t, x.what, f, []int64{0, 3, 0, 2, 0, 1, 0, 0})
		}
	}
}

func TestMovesTakeTheBook(t *testing.T) {
	var books []impl.Book
	for sym := range int64(4) {
		bid, ask, ask2 := by(1, 10+sym, 50, 1), by(2, 20+sym, 60, 1), by(3, 30+sym, 60, 1)
		books = append(books, impl.Book{Bids: []impl.Order{bid}, Asks: []impl.Order{ask, ask2}})
	}
	for sym := range int64(4) {
		for from := range int64(4) {
			for to := range int64(4) {
				f := newFabric(t, fabricCmds(), 4, repeated(from, 4), impl.Move{Sym: sym, To: to}, impl.Move{After: 3})
				for i := range f.Shards {
					f.Shards[i].E = withBlocked(engineOf(tradeEngine().Books[1], fullBids(), matchBook(), levelBook()), 80+int64(i))
				}
				f.Shards[from].E = withBlocked(engineOf(books...), 90)
				want := deepCopy(f)
				want.Plan = want.Plan[1:]
				if from != to {
					want.Owner[sym] = to
					want.Shards[to].E.Books[sym] = books[sym]
					want.Shards[from].E.Books[sym] = impl.Book{}
				}
				if n := picked(t, f, 0); !sameFabric(n, want) {
					t.Errorf("book %d from %d to %d: %v, not %v", sym, from, to, n, want)
				}
			}
		}
	}
}

func TestMovesWithoutEffect(t *testing.T) {
	for _, m := range []impl.Move{
		{Sym: -1}, {Sym: 4}, {Sym: 4, To: 1}, {Sym: math.MinInt64}, {Sym: 256},
		{To: -1}, {To: 2}, {To: 3}, {To: math.MaxInt64}, {Sym: 3, To: 256},
	} {
		f := newFabric(t, fabricCmds(), 2, []int64{0, 1, 0, 1}, m, m)
		f.Shards[0].E, f.Shards[1].E = tradeEngine(), fullEngine()
		want := deepCopy(f)
		want.Plan = want.Plan[1:]
		if n := picked(t, f, 0); !sameFabric(n, want) {
			t.Errorf("%v: %v, not %v", m, n, want)
		}
		want.Plan = nil
		if n := picked(t, f, 0, 0); !sameFabric(n, want) {
			t.Errorf("%v: %v, not %v", m, n, want)
		}
	}
}

// wantPlans checks what is left of a plan after each step of the router.
func wantPlans(t *testing.T, f impl.Fabric, want ...[]impl.Move) impl.Fabric {
	t.Helper()
	for i, plan := range want {
		if f = picked(t, f, 0); !slices.Equal(f.Plan, plan) {
			t.Fatalf("step %d: the plan is %v, want %v", i, f.Plan, plan)
		}
	}
	return f
}

func TestSeveralDueMoves(t *testing.T) {
	a, b, c := impl.Move{Sym: 0, To: 1}, impl.Move{Sym: 0, To: 2}, impl.Move{Sym: 0, To: 0}
	late, later := impl.Move{After: 1, Sym: 1, To: 0}, impl.Move{After: 2, Sym: 1, To: 0}
	f := newFabric(t, []impl.Cmd{buys(1, 1, 100, 5)}, 3, allZero(), later, a, late, b, c, a)
	n := wantPlans(t, f, []impl.Move{later, late, b, c, a}, []impl.Move{later, late, c, a}, []impl.Move{later, late, a})
	n = wantPlans(t, n, []impl.Move{later, late})
	if n.Next != 0 || n.Owner[0] != 1 {
		t.Errorf("%v", n)
	}
	n = wantPlans(t, n, []impl.Move{later, late})
	wantStampsIn(t, "sent after all due moves", n, nil, []int64{1}, nil)
	n = wantPlans(t, n, []impl.Move{later})
	wantRunnable(t, "no move is due", n, 2)
	wantRunnable(t, "ended, with a move left", picked(t, n, 2))
	wantFolded(t, "several due moves", impl.Finish(f), f.Cmds)

	// The first due move waits, and therefore the others too, which could be performed.
	f = busy(t, []impl.Move{{Sym: 0, To: 1}, {Sym: 2, To: 2}, {Sym: 9}}, 1)
	wantRunnable(t, "the first one waits", f, 2)
	f.Plan[0], f.Plan[2] = f.Plan[2], f.Plan[0]
	wantRunnable(t, "the last one waits", f, 0, 2)
	n = wantPlans(t, f, f.Plan[1:], f.Plan[2:])
	wantRunnable(t, "the last one still waits", n, 2)
	wantRunnable(t, "the last one waits no longer", picked(t, n, 2), 0)
}

func TestMovesThatAreNeverDue(t *testing.T) {
	l := fabricCmds()
	plan := []impl.Move{{After: 10, To: 1}, {After: -1, To: 1}, {After: math.MaxInt64, To: 1}, {After: math.MinInt64, To: 1}}
	f := impl.Finish(newFabric(t, l, 2, allZero(), plan...))
	if !slices.Equal(f.Plan, plan) || !slices.Equal(f.Owner, allZero()) {
		t.Errorf("%v", f)
	}
	wantFolded(t, "never due", f, l)
	f = newFabric(t, l, 2, allZero(), impl.Move{After: 3, Sym: 0, To: 1})
	f.Next = 4
	if f = impl.Finish(f); len(f.Plan) != 1 || f.Owner[0] != 0 || !impl.Ended(f) {
		t.Errorf("a move whose time has passed: %v", f)
	}
}

func TestMoveBehindTheLastCommand(t *testing.T) {
	l := fabricCmds()
	f := newFabric(t, l, 2, allZero(), impl.Move{After: 9, Sym: 1, To: 1}, impl.Move{After: 9, Sym: 7})
	for range l {
		f = picked(t, f, 0)
	}
	wantRunnable(t, "the move waits", f, 1, 2)
	for len(f.Shards[0].Inbox) > 0 {
		f = picked(t, f, 1)
	}
	wantRunnable(t, "the move waits for the shard To", f, 2)
	f = picked(t, f, 2, 2)
	wantRunnable(t, "the move is possible", f, 0)
	if recs := impl.TapeOf(f); len(recs) != 0 {
		t.Errorf("not ended: %v", recs)
	}
	f = picked(t, f, 0)
	wantRunnable(t, "the move without effect is possible", f, 0)
	f = picked(t, f, 0)
	if f.Owner[1] != 1 || len(f.Plan) != 0 {
		t.Errorf("%v", f)
	}
	wantFolded(t, "behind the last command", f, l)
}

func TestRouterSends(t *testing.T) {
	owner := []int64{2, 0, 1, 2}
	for _, c := range append(sampleCmds(), oneOfEachKind(7, 77, 3)...) {
		for _, next := range []int64{0, 1, 59} {
			f := newFabric(t, append(repeated(impl.Cmd{}, int(next)), c), 4, owner)
			f.Next = next
			n := picked(t, f, 0)
			item := impl.Item{Stamp: next + 1, C: c}
			want := deepCopy(f)
			want.Next = next + 1
			for i := range want.Shards {
				to := int64(i) == owner[c.Sym&3]
				if !validCmd(c) {
					to = i == 0
				} else if c.Kind >= impl.CkMass {
					to = true
				}
				if to {
					want.Shards[i].Inbox = []impl.Item{item}
				}
			}
			if !sameFabric(n, want) {
				t.Errorf("%+v: %v, not %v", c, n, want)
			}
		}
	}
}

// Items wait in the order in which they were sent.
func TestItemsWaitInOrder(t *testing.T) {
	c := buys(1, 1, 9, 1)
	l := []impl.Cmd{c, inBook(1, c), wide(impl.CkFree, 1), {}, inBook(2, c), wide(impl.CkMass, 1), buys(1, 2, 9, 1)}
	f := newFabric(t, l, 3, []int64{1, 2, 1, 0})
	for range l {
		f = picked(t, f, 0)
	}
	wantStampsIn(t, "all sent", f, []int64{3, 4, 6}, []int64{1, 3, 5, 6, 7}, []int64{2, 3, 6})
	f = picked(t, f, 2, 2, 1, 3)
	wantStampsIn(t, "some executed", f, []int64{4, 6}, []int64{5, 6, 7}, []int64{3, 6})
	f, _ = impl.PickAll(f, []int64{2, 2, 1, 1, 1, 1, 0})
	wantStampsIn(t, "most executed", f, nil, []int64{7}, []int64{3, 6})
	wantFolded(t, "in order", impl.Finish(f), l)
}

func TestShardExecutes(t *testing.T) {
	cmds := oneOfEachKind(3, 900, 1)
	cmds = append(cmds, inBook(3, cancel(3, 14)), inBook(1, buys(4, 9, 102, 20)), buys(80, 9, 50, 1))
	cmds = append(cmds, wide(impl.CkBlock, 2), wide(impl.CkFree, 80), wide(impl.CkFree, 5))
	for _, e := range []impl.Engine{engineOf(), tradeEngine(), withBlocked(tradeEngine(), 5, 80), fullEngine()} {
		for i, c := range cmds {
			for _, stamp := range []int64{0, 1, 60, -1, math.MinInt64, math.MaxInt64} {
				f := newFabric(t, cmds, 3, []int64{0, 0, 0, 2})
				at := i % 3
				before := impl.Frag{Stamp: 9, Shard: 1, Recs: matchRecs()}
				f.Shards[at] = impl.Shard{E: e, Inbox: []impl.Item{{Stamp: stamp, C: c}, {Stamp: 5}}, Out: []impl.Frag{before}}
				want := deepCopy(f)
				s := &want.Shards[at]
				next, recs := impl.Step(e, c)
				recs = slices.DeleteFunc(withStamp(recs, stamp), func(r impl.Rec) bool { return r.Kind == impl.RkDone })
				s.E, s.Inbox, s.Out = next, s.Inbox[1:], append(s.Out, impl.Frag{Stamp: stamp, Shard: int64(at), Recs: recs})
				if n := picked(t, f, int64(at)+1); !sameFabric(n, want) {
					t.Errorf("shard %d, %+v: %v, not %v", at, c, n, want)
				}
			}
		}
	}
}

// Book 0 goes to shard 1, which has not yet executed the commands on all books that shard 0 has executed, and back.
func TestBookMovesToAShardThatIsBehind(t *testing.T) {
	l := []impl.Cmd{
		inBook(1, buys(1, 1, 90, 1)), buys(1, 1, 100, 5), wide(impl.CkMass, 1), buys(1, 2, 99, 4), inBook(1, buys(2, 2, 91, 1)),
		buys(1, 3, 98, 3), wide(impl.CkBlock, 2), sells(2, 4, 98, 1), wide(impl.CkFree, 2), sells(2, 5, 98, 1), wide(impl.CkBlock, 1),
	}
	there, back := impl.Move{After: 5, Sym: 0, To: 1}, impl.Move{After: 8, Sym: 0, To: 0}
	f := newFabric(t, l, 2, []int64{0, 1, 0, 0}, there, back)
	f = picked(t, f, 0, 0, 0, 0, 0, 1, 1, 1)
	wantStampsIn(t, "shard 1 is behind", f, nil, []int64{1, 3, 5})
	wantRunnable(t, "the book waits for shard 1", f, 2)
	f = picked(t, f, 2, 2)
	wantRunnable(t, "the book still waits", f, 2)
	f = picked(t, f, 2)
	wantRunnable(t, "the book can go", f, 0)
	f = picked(t, f, 0)
	wantIds(t, "the book came after the mass cancellation", f.Shards[1].E.Books[0].Bids, 2)
	f = picked(t, f, 0, 0, 0, 2)
	wantStampsIn(t, "both are behind", f, []int64{7}, []int64{7, 8})
	wantRunnable(t, "the book waits for both", f, 1, 2)
	wantRunnable(t, "the book waits for shard 0", picked(t, f, 2, 2), 1)
	wantRunnable(t, "the book waits for shard 1", picked(t, f, 1, 2), 2)
	f = picked(t, f, 1, 2, 2, 0)
	wantIds(t, "the book is back", f.Shards[0].E.Books[0].Bids, 2, 3)
	wantIds(t, "the book is gone", f.Shards[1].E.Books[0].Bids)
	f = picked(t, f, 0, 0, 1, 1, 0, 1)
	wantRunnable(t, "shard 1 is behind at the end", f, 2)
	wantFolded(t, "there and back", impl.Finish(f), l)
}

func TestPickAllOfAtMost600Elements(t *testing.T) {
	f := newFabric(t, fabricCmds(), 2, allZero())
	for _, skipped := range []int64{2, -1, 3, 99} {
		for _, n := range []int{0, 1, 598, 599, 600, 601, 1200} {
			want := int64(min(2, max(0, 600-n)))
			g, steps := impl.PickAll(f, append(repeated(skipped, n), 0, 0))
			if steps != want || g.Next != want || !sameFabric(g, picked(t, f, repeated(int64(0), int(want))...)) {
				t.Errorf("%d elements %d, and two more: %d steps, Next %d", n, skipped, steps, g.Next)
			}
		}
	}
	full := newFabric(t, repeated(wide(impl.CkFree, 1), 60), 4, allZero())
	for i := range full.Shards {
		full.Shards[i].Inbox = repeated(impl.Item{C: wide(impl.CkMass, 1)}, 60)
	}
	l := repeated(int64(0), 60)
	for who := range int64(4) {
		l = append(l, repeated(who+1, 120)...)
	}
	if g, steps := impl.PickAll(full, l); steps != 540 || len(g.Shards[3].Out) != 120 || len(impl.Runnable(g)) != 0 {
		t.Errorf("%d steps of 540", steps)
	}
}

func TestPickAllSkipsWhatIsNotRunnable(t *testing.T) {
	f := newFabric(t, fabricCmds(), 2, []int64{0, 1, 0, 0}, impl.Move{After: 1, Sym: 0, To: 1})
	l := []int64{1, 2, 3, -1, 5, math.MaxInt64, math.MinInt64, 1 << 32, 256, 0, 0, 2, 0, 1, 1, 0, 0}
	n, steps := impl.PickAll(f, l)
	if steps != 4 || !sameFabric(n, picked(t, f, 0, 1, 0, 0)) {
		t.Errorf("%d steps: %v", steps, n)
	}
	for _, l := range [][]int64{nil, {}, {1}, {2, 1}, {-1, 9}} {
		if n, steps := impl.PickAll(f, l); steps != 0 || !sameFabric(n, f) {
			t.Errorf("%v: %d steps: %v", l, steps, n)
		}
	}
	for _, who := range []int64{1, 2, 3, 4, 5, -1, 1 << 32, -1 << 32, math.MaxInt64, math.MinInt64} {
		if n, ok := impl.Pick(f, who); ok || !isEmptyFabric(n) {
			t.Errorf("Pick of %d: %v %v", who, ok, n)
		}
	}
}
