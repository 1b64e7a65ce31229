package tests

import (
	"fmt"
	"runtime"
	"slices"
	"sync"
	"testing"

	"loop.example/g00609/impl"
)

// endedFabric has sent its commands, and has outputs for some of the shards.
func endedFabric(l []impl.Cmd, outs ...[]impl.Frag) impl.Fabric {
	f := impl.Fabric{Cmds: l, Next: int64(len(l)), Owner: allZero()}
	for _, out := range outs {
		f.Shards = append(f.Shards, impl.Shard{E: engineOf(), Out: out})
	}
	return f
}

// frag is an output of records that have the stamp and, in turn, the symbols.
func frag(shard int64, stamp int64, first int64, syms ...int64) impl.Frag {
	g := impl.Frag{Stamp: stamp, Shard: shard}
	for i, sym := range syms {
		g.Recs = append(g.Recs, impl.Rec{Stamp: stamp, Kind: impl.RkCancel, Sym: sym, Id: first + int64(i), Qty: 1})
	}
	return g
}

// wantTapeIds checks the numbers of the orders on a tape. In place of RkDone stands its quantity, negative.
func wantTapeIds(t *testing.T, what string, f impl.Fabric, want ...int64) {
	t.Helper()
	wantRunnable(t, what, f)
	var l []int64
	for _, r := range impl.TapeOf(f) {
		if r.Kind == impl.RkDone {
			l = append(l, -r.Qty)
		} else {
			l = append(l, r.Id)
		}
	}
	if !slices.Equal(l, want) {
		t.Errorf("%s: the tape has the orders %v, want %v", what, l, want)
	}
	wantTapeAsModel(t, what, f)
}

func TestTapeIsMerged(t *testing.T) {
	free, single := wide(impl.CkFree, 7), buys(1, 1, 9, 1)
	wantTapeIds(t, "no output", endedFabric([]impl.Cmd{single, single}, nil, nil))
	wantTapeIds(t, "no output of a command on all books", endedFabric([]impl.Cmd{single, free, {}, free}, nil, nil), 0, 0)
	wantTapeIds(t, "by stamps", endedFabric([]impl.Cmd{single, single, single},
		[]impl.Frag{frag(0, 3, 30, 0), frag(0, 1, 10, 0)}, []impl.Frag{frag(1, 2, 20, 0)}), 10, 20, 30)
	wantTapeIds(t, "by symbols", endedFabric([]impl.Cmd{single},
		[]impl.Frag{frag(0, 1, 10, 3, 1, 2, 0, 255, 254)}), 13, 11, 12, 10, 15, 14)
	wantTapeIds(t, "by symbols before shards", endedFabric([]impl.Cmd{single},
		[]impl.Frag{frag(0, 1, 10, 3, 1)}, []impl.Frag{frag(1, 1, 20, 0, 2)}, []impl.Frag{frag(2, 1, 30, 1, 2)}),
		20, 11, 30, 21, 31, 10)
	wantTapeIds(t, "by shards, for one symbol", endedFabric([]impl.Cmd{single},
		[]impl.Frag{frag(0, 1, 90, 2, 2)}, []impl.Frag{frag(1, 1, 50, 2, 2)},
		[]impl.Frag{frag(2, 1, 10, 2)}, []impl.Frag{frag(3, 1, 70, 2)}),
		90, 91, 50, 51, 10, 70)
	wantTapeIds(t, "as they stand in an output, for one shard", endedFabric([]impl.Cmd{single, single},
		[]impl.Frag{frag(0, 1, 90, 2, 2, 2), frag(0, 2, 40, 2), frag(0, 1, 50, 2, 1), frag(0, 1, 10, 2)}), 51, 90, 91, 92, 50, 10, 40)
	wantTapeIds(t, "with RkDone", endedFabric([]impl.Cmd{single, wide(impl.CkMass, 9), wide(impl.CkBlock, 100), free},
		[]impl.Frag{frag(0, 3, 30, 1), frag(0, 2, 20, 0, 3), frag(0, 1, 10, 0), frag(0, 4, 40)}, []impl.Frag{frag(1, 2, 25, 1)}),
		10, 20, 25, 21, -3, 30, -1, 0)
}

func TestTapeHasNoOtherStampsAndSymbols(t *testing.T) {
	single, mass := buys(1, 1, 9, 1), wide(impl.CkMass, 9)
	for _, sym := range outside(0, 255) {
		wantTapeIds(t, "a symbol outside", endedFabric([]impl.Cmd{single, mass},
			[]impl.Frag{frag(0, 1, 10, 0, sym, 255), frag(0, 2, 20, sym)}, []impl.Frag{frag(1, 2, 30, 255, sym)}), 10, 12, 30, -1)
	}
	for _, stamp := range outside(1, 2) {
		wantTapeIds(t, "a stamp outside", endedFabric([]impl.Cmd{single, mass},
			[]impl.Frag{frag(0, stamp, 10, 0), frag(0, 2, 20, 1)}, []impl.Frag{frag(1, 1, 30, 2), frag(1, stamp, 40, 3)}), 30, 20, -1)
	}
	wantTapeIds(t, "no commands", endedFabric(nil, []impl.Frag{frag(0, 0, 1, 0), frag(0, 1, 2, 0)}))
}

func TestTapeHasRkDoneOfValidCommands(t *testing.T) {
	for _, c := range append(sampleCmds(), oneOfEachKind(7, 77, 3)...) {
		f := endedFabric([]impl.Cmd{{}, c}, []impl.Frag{frag(0, 2, 10, 0)}, []impl.Frag{frag(1, 2, 20, 1)})
		want := slices.Concat(frag(0, 2, 10, 0).Recs, frag(1, 2, 20, 1).Recs)
		if validCmd(c) && c.Kind >= impl.CkMass {
			want = append(want, withStamp([]impl.Rec{done(c, 2)}, 2)...)
		}
		if tape := impl.TapeOf(f); !slices.Equal(tape, want) {
			t.Errorf("%+v: %v, not %v", c, tape, want)
		}
	}
}

func TestFabricsThatHaveNotEnded(t *testing.T) {
	ended := endedFabric(fabricCmds(), []impl.Frag{frag(0, 1, 10, 0)}, []impl.Frag{frag(1, 2, 20, 0)})
	wantTapeIds(t, "ended", ended, 10, 20, 0, 0)
	for name, change := range map[string]func(f *impl.Fabric){
		"a command is left":     func(f *impl.Fabric) { f.Next-- },
		"all commands are left": func(f *impl.Fabric) { f.Next = 0 },
		"shard 0 has an item":   func(f *impl.Fabric) { f.Shards[0].Inbox = make([]impl.Item, 1) },
		"shard 1 has an item":   func(f *impl.Fabric) { f.Shards[1].Inbox = make([]impl.Item, 1) },
		"a move is due":         func(f *impl.Fabric) { f.Plan = []impl.Move{{After: 3}, {After: 9, To: 1}} },
		"a move to the owner":   func(f *impl.Fabric) { f.Plan = []impl.Move{{After: 9}} },
		"a move without effect": func(f *impl.Fabric) { f.Plan = []impl.Move{{After: 9, Sym: 4}} },
		"a move that waits": func(f *impl.Fabric) {
			f.Plan, f.Shards[1].Inbox = []impl.Move{{After: 9, To: 1}}, make([]impl.Item, 1)
		},
	} {
		f := deepCopy(ended)
		change(&f)
		if tape := impl.TapeOf(f); impl.Ended(f) || len(impl.Runnable(f)) == 0 || len(tape) != 0 {
			t.Errorf("%s: ended %v, %v", name, impl.Ended(f), tape)
		}
		if f = impl.Finish(f); !impl.Ended(f) || len(impl.TapeOf(f)) < 4 {
			t.Errorf("%s: finished, ended %v, %v", name, impl.Ended(f), impl.TapeOf(f))
		}
	}
}

func sampleOwners(shards int64) [][]int64 {
	l := [][]int64{repeated(shards-1, 4), {0, 0, 0, 0}, {0, shards - 1, 0, shards - 1}, {shards - 1, shards - 1, 0, 0}}
	var spread []int64
	for sym := range int64(4) {
		spread = append(spread, sym%shards)
	}
	return append(l, spread)
}

func samplePlans() [][]impl.Move {
	var wander []impl.Move
	for i := range int64(20) {
		wander = append(wander, impl.Move{After: i / 2, Sym: i % 3, To: (i * i) % 5})
	}
	return [][]impl.Move{
		nil,
		{{After: 0, Sym: 0, To: 1}, {After: 4, Sym: 0, To: 0}, {After: 5, Sym: 0, To: 1}, {After: 8, Sym: 0, To: 0}},
		{{After: 4, Sym: 0, To: 1}, {After: 4, Sym: 1, To: 1}, {After: 4, Sym: 1, To: 2}, {After: 9, Sym: 1, To: 0}},
		{{After: 7, Sym: 0, To: 3}, {After: 2, Sym: 0, To: 2}, {After: 99, Sym: 0, To: 1}, {After: 3, Sym: 4}, {After: 3, To: -1}},
		wander,
	}
}

// The same steps are tried again and again, in this order.
func sampleOrders() [][]int64 {
	return [][]int64{
		{0, 1, 2, 3, 4}, {4, 3, 2, 1, 0}, {0, 0, 0, 1, 2, 3, 4}, {0, 0, 0, 0, 0, 0, 0, 0, 0, 0, 2, 1, 4, 3},
		append(repeated(int64(0), 10), 1, 2), append(repeated(int64(0), 10), 4, 4, 4, 4, 4, 3, 3, 3, 2, 2, 1),
		{2, 2, 2, 0}, {1, 0, 1, 0, 0},
	}
}

func TestTapeIsTheFold(t *testing.T) {
	for shards := int64(1); shards <= 4; shards++ {
		for _, owner := range sampleOwners(shards) {
			for i, plan := range samplePlans() {
				for j, order := range sampleOrders() {
					f := newFabric(t, fabricCmds(), shards, owner, plan...)
					for range 20 {
						f, _ = impl.PickAll(f, order)
					}
					f = impl.Finish(f)
					wantFolded(t, fmt.Sprintf("%d shards, owners %v, plan %d, order %d", shards, owner, i, j), f, fabricCmds())
				}
			}
		}
	}
}

// everyOrder performs, beginning with a fabric, all steps that are possible in every order, and returns the number of
// the fabrics on the way.
func everyOrder(t *testing.T, f impl.Fabric, l []impl.Cmd, seen map[string]bool) {
	t.Helper()
	key := fmt.Sprint(f)
	if seen[key] || t.Failed() {
		return
	}
	seen[key] = true
	possible := impl.Runnable(f)
	if len(possible) == 0 {
		wantFolded(t, "every order of steps", f, l)
	}
	for _, who := range possible {
		everyOrder(t, picked(t, f, who), l, seen)
	}
}

func TestEveryOrderOfSteps(t *testing.T) {
	l := []impl.Cmd{
		buys(1, 1, 100, 5), inBook(1, sells(1, 1, 100, 5)), sells(2, 2, 100, 3),
		{}, wide(impl.CkBlock, 1), inBook(1, buys(2, 8, 90, 5)),
	}
	for _, plan := range [][]impl.Move{
		nil,
		{{After: 2, Sym: 0, To: 1}, {After: 5, Sym: 0, To: 0}},
		{{After: 4, Sym: 1, To: 0}, {After: 5, Sym: 0, To: 1}, {After: 5, Sym: 1, To: 1}, {After: 6, Sym: 2, To: 1}},
		{{After: 1, Sym: 0, To: 2}, {After: 4, Sym: 0, To: 1}, {After: 3, Sym: 9}, {After: 3, Sym: 1, To: 1}},
	} {
		for shards := int64(1); shards <= 3; shards++ {
			seen := map[string]bool{}
			everyOrder(t, newFabric(t, l, shards, []int64{0, min(1, shards-1), 0, 0}, plan...), l, seen)
			if len(seen) < 10 {
				t.Errorf("only %d fabrics", len(seen))
			}
		}
	}
}

func randomPlan(d *dice, cmds int64, shards int64) []impl.Move {
	var plan []impl.Move
	for range d.roll(21) {
		m := impl.Move{After: d.roll(cmds + 1), Sym: d.roll(4), To: d.roll(shards)}
		if d.roll(6) == 0 {
			m = impl.Move{After: d.roll(cmds+4) - 2, Sym: d.roll(6) - 1, To: d.roll(6) - 1}
		}
		plan = append(plan, m)
	}
	return plan
}

func randomOwners(d *dice, shards int64) []int64 {
	return []int64{d.roll(shards), d.roll(shards), d.roll(shards), d.roll(shards)}
}

// Promise 7, on the way to which the owners are the only ones with orders.
func TestTapeIsTheFoldRandomly(t *testing.T) {
	d := dice(71)
	moved := 0
	for i := range 150 {
		l := randomCmds(&d, d.roll(61), 4)
		shards := int64(1 + i%4)
		f := newFabric(t, l, shards, randomOwners(&d, shards), randomPlan(&d, int64(len(l)), shards)...)
		for range d.roll(30) {
			before := f.Owner
			f, _ = impl.PickAll(f, mixed(&d, 10))
			wantOwned(t, f)
			if !slices.Equal(before, f.Owner) {
				moved++
			}
		}
		wantFolded(t, "random", impl.Finish(f), l)
	}
	if moved < 50 {
		t.Errorf("only %d moves on the way", moved)
	}
}

func wantOwned(t *testing.T, f impl.Fabric) {
	t.Helper()
	if !validFabric(f) {
		t.Errorf("not valid: %v", f)
	}
	for i, s := range f.Shards {
		for sym, b := range s.E.Books {
			if f.Owner[sym] != int64(i) && len(b.Bids)+len(b.Asks) > 0 {
				t.Errorf("shard %d has orders in book %d of shard %d", i, sym, f.Owner[sym])
			}
		}
	}
}

// randomFabric returns a valid fabric, as no new one becomes: all its parts are random.
func randomFabric(d *dice) impl.Fabric {
	f := impl.Fabric{Cmds: randomCmds(d, d.roll(20), 6)}
	shards := 1 + d.roll(4)
	f.Plan, f.Owner, f.Next = randomPlan(d, int64(len(f.Cmds)), shards), randomOwners(d, shards), d.roll(int64(len(f.Cmds))+1)
	if d.roll(3) == 0 {
		f.Next = int64(len(f.Cmds))
	}
	for i := range shards {
		s := impl.Shard{E: randomEngine(d, 6, 4)}
		for range d.roll(6) * d.roll(2) {
			s.Inbox = append(s.Inbox, impl.Item{Stamp: d.roll(25) - 2, C: randomWide(d, 0, 6)})
		}
		for range d.roll(6) {
			g := frag(i, d.roll(25)-2, d.roll(100), d.roll(5)-1, d.roll(5)-1, 253+d.roll(5))
			g.Recs = g.Recs[:d.roll(4)]
			s.Out = append(s.Out, g)
		}
		f.Shards = append(f.Shards, s)
	}
	return f
}

func TestFabricsRandomly(t *testing.T) {
	d := dice(72)
	ended := 0
	for range 400 {
		f := randomFabric(&d)
		wantAsModel(t, "random", f, mixed(&d, int(d.roll(40))))
		if impl.Ended(f) {
			ended++
		}
	}
	if ended < 5 {
		t.Errorf("only %d fabrics had ended", ended)
	}
}

func TestFinishOfLongFabrics(t *testing.T) {
	d := dice(73)
	for shards := int64(1); shards <= 4; shards++ {
		plan := repeated(impl.Move{After: 60, To: shards}, 20)
		f := newFabric(t, repeated(wide(impl.CkMass, 3), 60), shards, repeated(shards-1, 4), plan...)
		wantAsModel(t, "60 commands on all books", f, mixed(&d, 600))
		n := impl.Finish(f)
		wantFolded(t, "60 commands on all books", n, f.Cmds)
		if again := impl.Finish(n); !sameFabric(again, n) {
			t.Errorf("finished twice: %v", again)
		}
	}
}

// fabricArgs are the arguments of the functions of chapter 7.
type fabricArgs struct {
	F    impl.Fabric
	L    []int64
	Plan []impl.Move
	Cmds []impl.Cmd
}

func TestFabricsAreNotChanged(t *testing.T) {
	d := dice(74)
	fabrics := []impl.Fabric{begunFabric(t), finishedFabric(t), {}}
	for range 60 {
		fabrics = append(fabrics, randomFabric(&d))
	}
	for _, f := range fabrics {
		x := fabricArgs{F: f, L: mixed(&d, 30)}
		wantKept(t, "PickAll", x, func(x fabricArgs) impl.Fabric {
			n, _ := impl.PickAll(x.F, x.L)
			return n
		})
		for who := range int64(5) {
			wantKept(t, "Pick", f, func(f impl.Fabric) impl.Fabric {
				n, _ := impl.Pick(f, who)
				return n
			})
		}
		wantKept(t, "Finish", f, impl.Finish)
		wantKept(t, "Runnable", f, impl.Runnable)
		wantKept(t, "Ended", f, impl.Ended)
		wantKept(t, "TapeOf", f, impl.TapeOf)
		wantKept(t, "TapeOf", impl.Finish(f), impl.TapeOf)
	}
	x := fabricArgs{Cmds: fabricCmds(), L: []int64{0, 1, 1, 0}, Plan: repeated(impl.Move{After: 3, To: 1}, 20)}
	wantKept(t, "FabricNew", x, func(x fabricArgs) impl.Fabric {
		n, _ := impl.FabricNew(x.Cmds, 2, x.L, x.Plan)
		return n
	})
}

// The calls run beside one another, which must not change what any of them returns.
func TestEqualFabricsYieldEqualResults(t *testing.T) {
	d := dice(75)
	for range 20 {
		f, l := randomFabric(&d), mixed(&d, 40)
		want, steps := impl.PickAll(f, l)
		end := impl.Finish(f)
		var all sync.WaitGroup
		for range 8 {
			all.Go(func() {
				n, again := impl.PickAll(deepCopy(f), slices.Clone(l))
				if again != steps || !sameFabric(n, want) {
					t.Errorf("PickAll of %v: first %d %v, then %d %v", f, steps, want, again, n)
				}
				if n := impl.Finish(f); !sameFabric(n, end) {
					t.Errorf("Finish of %v: first %v, then %v", f, end, n)
				}
			})
		}
		all.Wait()
	}
}

func TestNoGoroutineStays(t *testing.T) {
	before := runtime.NumGoroutine()
	begun, broken := begunFabric(t), begunFabric(t)
	broken.Shards[0].Out = make([]impl.Frag, 61)
	for range 50 {
		for _, f := range []impl.Fabric{begun, broken} {
			impl.Finish(f)
			impl.PickAll(f, []int64{0, 1, 1, 9, 3})
			impl.PickAll(f, nil)
			impl.Pick(f, 2)
			impl.Pick(f, 7)
			impl.TapeOf(f)
		}
	}
	for range 1000 {
		runtime.Gosched()
	}
	if after := runtime.NumGoroutine(); after > before+20 {
		t.Errorf("%d goroutines before, %d after", before, after)
	}
}
