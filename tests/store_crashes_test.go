package tests

import (
	"fmt"
	"math"
	"slices"
	"strings"
	"testing"

	"loop.example/g00609/impl"
)

func TestCrashOfALog(t *testing.T) {
	l := numberedCmds(4)
	two := logOf(l[:2]...)
	size := int64(len(entry("2", l[2])))
	d := after(withLog(two), adds("log", entry("2", l[2])), adds("log", entry("3", l[3])))
	for _, x := range []struct {
		keep []int64
		torn int64
		many int
	}{
		{nil, 0, 2}, {nil, 99, 2}, {[]int64{0}, 0, 2}, {[]int64{0}, size, 3}, {[]int64{0, 1}, 0, 3},
		{[]int64{0, 1}, size, 4}, {[]int64{0, 1}, math.MaxInt64, 4}, {[]int64{1}, 0, 2},
	} {
		n := withLog(logOf(l[:x.many]...))
		wantSteps(t, fmt.Sprint(x), crash(0, x.torn, x.keep...), d, n)
	}
	for torn := int64(1); torn < size; torn++ {
		wantOpened(t, fmt.Sprint("torn at ", torn), crash(0, torn, 0), d, withLog(two+entry("2", l[2])[:torn]))
		wantOpened(t, fmt.Sprint("the second torn at ", torn), crash(0, torn, 0, 1), d, withLog(logOf(l[:3]...)+entry("3", l[3])[:torn]))
		wantOpened(t, fmt.Sprint("without the first, torn at ", torn), crash(0, torn, 1), d, withLog(two+entry("3", l[3])[:torn]))
	}
	wantOpened(t, "without the first", crash(0, size, 1), d, withLog(two+entry("3", l[3])))
}

func TestCrashWithLogNew(t *testing.T) {
	torn := logOf(numberedCmds(1)...) + "x"
	for _, data := range []string{"", "old"} {
		d := after(withLog("", file("log.new", data)), adds("log", torn))
		wantOpened(t, "a synced log.new", crash(0, 99, 0), d, withLog(torn, file("log.new", data)))
		n := withLog("", file("log.new", data))
		wantSteps(t, "a synced log.new, and a log", crash(0, 99), d, n)
		d = after(withLog(""), adds("log", torn), adds("log.new", data))
		wantOpened(t, "log.new", crash(0, 99, 0, 1), d, withLog(torn, file("log.new", data)))
		wantOpened(t, "without log.new", crash(0, 99, 0), d, withLog(torn))
	}
}

func TestCrashThatIsNotPossible(t *testing.T) {
	d := after(withLog(""), adds("log", "x"), adds("a", "y"))
	for _, keep := range [][]int64{{-1}, {2}, {0, 2}, {0, 0}, {1, 1}, {1, 0}, {0, 1, 2}} {
		wantRefusedAct(t, fmt.Sprint("keep ", keep), d, crash(0, 1, keep...), impl.StForm)
	}
	for _, torn := range []int64{-1, math.MinInt64} {
		for _, keep := range subsets(2) {
			wantRefusedAct(t, "torn is negative", d, crash(0, torn, keep...), impl.StForm)
		}
	}
	for _, x := range []impl.Disk{{}, after(withLog(""), erases("log"))} {
		wantRefusedAct(t, "no log, and no operation", x, crash(0, 0, 1), impl.StForm)
		wantRefusedAct(t, "no log, and torn is negative", x, crash(0, -1), impl.StForm)
	}
	full := after(withLog("", manyFiles(59, 0)...), erases("f00"), adds("g", ""))
	wantRefusedAct(t, "61 files", full, crash(0, 0, 1), impl.StForm)
	large := strings.Repeat("x", 200000)
	full = after(withLog(large), erases("log"), adds("log", "x"))
	wantRefusedAct(t, "200001 bytes", full, crash(0, 1, 1), impl.StForm)
	wantOpened(t, "200000 bytes", crash(0, 0, 1), full, withLog(large))
}

func TestCrashThatLosesTheLog(t *testing.T) {
	lost := func(what string, d impl.Disk, left impl.Disk, torn int64, keep ...int64) {
		t.Helper()
		for _, power := range []int64{-1, 0, 1, 2, 9} {
			wantAct(t, what, d, crash(power, torn, keep...), left, impl.StNone)
		}
	}
	begun := after(impl.Disk{}, adds("log", ""), adds("log", "x"), adds("a", "y"))
	lost("a log that was not synced", begun, impl.Disk{}, 0)
	lost("a log that was not synced, and a file", begun, synced(file("a", "")), 0, 2)
	wantSteps(t, "a log that was kept", crash(0, 0, 0), begun, withLog(""))
	wantSteps(t, "a log that begins with the second append", crash(0, 0, 1), begun, withLog(""))
	moved := after(withLog("x", file("a", "1")), renames("log", "b"), adds("log", "z"))
	lost("a log that was renamed", moved, synced(file("a", "1"), file("b", "x")), 0, 0)
	lost("a log that was removed", after(withLog(""), erases("log")), impl.Disk{}, 0, 0)
	lost("no log", impl.Disk{}, impl.Disk{}, 0)
	wantSteps(t, "a log that was not removed", crash(0, 0), after(withLog(""), erases("log")), withLog(""))
	wantSteps(t, "a log that has come", crash(0, 0, 0), after(synced(file("a", "")), renames("a", "log")), withLog(""))
}

func TestCrashOntoADiskWithoutRoom(t *testing.T) {
	d := after(withLog("", manyFiles(59, 0)...), adds("log", "x"), adds("f00", "y"))
	torn := withLog("x", manyFiles(59, 0)...)
	for _, power := range []int64{-1, 1, 2, 9} {
		wantAct(t, "60 files", d, crash(power, 1, 0), torn, impl.StFull)
	}
	wantAct(t, "60 files", d, crash(0, 1, 0), torn, impl.StPower)
	whole := withLog("", manyFiles(59, 0)...)
	wantSteps(t, "60 files, and a log that is complete", crash(0, 1), d, whole)

	three := logOf(numberedCmds(3)...)
	rest := strings.Repeat("x", 200000-2*len(three))
	d = after(withLog(three, file("a", rest), file("log.new", "")), adds("log", "x"))
	torn = withLog(three+"x", file("a", rest), file("log.new", ""))
	for _, power := range []int64{-1, 2, 3} {
		wantAct(t, "a byte too few", d, crash(power, 1, 0), torn, impl.StFull)
	}
	wantAct(t, "a byte too few", d, crash(0, 1, 0), torn, impl.StPower)
	wantAct(t, "a byte too few", d, crash(1, 1, 0), after(torn, erases("log.new")), impl.StPower)
}

func TestCrashOfADiskFullOfOperations(t *testing.T) {
	d := after(withLog("x"), manyOps(200)...)
	wantOpened(t, "200 operations", crash(0, 0), d, withLog("x"))
}

// randomAct returns an action, most often one that can be performed.
func randomAct(d *dice, x impl.Disk, next impl.Cmd) impl.Act {
	a := impl.Act{Kind: 1 + d.roll(4), C: next, Sync: d.roll(3) == 0, Power: d.roll(8) - 2, Torn: d.roll(40)}
	if d.roll(3) > 0 {
		a.Kind = impl.AcAdd
	}
	if a.Kind == impl.AcCrash {
		a.Keep = randomSubset(d, len(x.Ops))
	}
	switch d.roll(60) {
	case 0:
		a.Kind = d.roll(9) - 2
	case 1:
		a.C.Mode = 4
	case 2:
		a.Torn = -1
	case 3:
		a.Keep = append(a.Keep, int64(len(x.Ops)))
	}
	return a
}

func TestActsRandomly(t *testing.T) {
	d := dice(122)
	codes := map[int64]int{}
	for range 60 {
		x := impl.Disk{}
		if d.roll(2) == 0 {
			x = randomDisk(&d, 6)
		}
		for range 60 {
			if d.roll(6) == 0 {
				x, _ = doModel(x, randomOp(&d, []string{"log", "log.new", "a"}))
			}
			a := randomAct(&d, x, randomCmds(&d, 1, 4)[0])
			want, code := actModel(x, a)
			wantAct(t, "random", x, a, want, code)
			l, size := readLog(shelfOf(want.Live)["log"])
			if _, exists := shelfOf(want.Live)["log"]; exists {
				wantView(t, fmt.Sprint(size, " bytes"), want, l...)
			} else {
				wantNoView(t, "no log", want, impl.StNone)
			}
			codes[code]++
			x = want
		}
	}
	for _, code := range []int64{impl.StOk, impl.StNone, impl.StForm, impl.StPower, impl.StTorn} {
		if codes[code] < 20 {
			t.Errorf("code %d has come %d times only", code, codes[code])
		}
	}
}

func TestStorePlay(t *testing.T) {
	d := dice(123)
	for range 100 {
		x := randomDisk(&d, 4)
		var l []impl.Act
		var want []int64
		n := x
		for range d.roll(20) {
			a := randomAct(&d, n, numberedCmds(1)[0])
			l = append(l, a)
			m, code := actModel(n, a)
			n, want = m, append(want, code)
		}
		if got, codes := impl.StorePlay(x, l); !sameDisk(got, n) || !slices.Equal(codes, want) {
			t.Fatalf("StorePlay of %v returns %v, want %v; %s", l, codes, want, difference(got, n))
		}
	}
	for name, x := range validDisks() {
		if n, codes := impl.StorePlay(x, nil); !sameDisk(n, x) || len(codes) != 0 {
			t.Errorf("%s: StorePlay of no actions returns %v", name, codes)
		}
	}
}

func TestStorePlayFillsALog(t *testing.T) {
	cmds := numberedCmds(201)
	l := []impl.Act{newLog(-1)}
	want := []int64{impl.StOk}
	for i, c := range cmds {
		l, want = append(l, addTo(c, i == 149, -1)), append(want, impl.StOk)
	}
	want[201] = impl.StFull
	n, codes := impl.StorePlay(impl.Disk{}, l)
	if !slices.Equal(codes, want) {
		t.Errorf("the codes are %v", codes)
	}
	wantView(t, "200 commands", n, cmds[:200]...)
	if len(n.Ops) != 50 || !sameDisk(impl.Sync(n), withLog(logOf(cmds[:200]...))) {
		t.Errorf("the log is not that of the commands, or there are %d operations", len(n.Ops))
	}
	for range 300 {
		l = append(l, openLog(-1), impl.Act{})
	}
	if _, codes := impl.StorePlay(impl.Disk{}, l); len(codes) != 802 {
		t.Errorf("%d codes", len(codes))
	}
}

// A ledger knows which commands were added to a log, and how many of them must remain after a loss of power.
type ledger struct {
	d      impl.Disk
	cmds   []impl.Cmd
	synced int
	exists bool
}

// do performs an action and notes what it has added and synced; of an opening, only the end.
func (l *ledger) do(a impl.Act) int64 {
	before := l.d
	n, code := impl.StoreDo(l.d, a)
	l.d = n
	switch {
	case a.Kind == impl.AcNew && code == impl.StOk:
		l.exists = true
	case a.Kind == impl.AcAdd && (code == impl.StOk || code == impl.StPower && a.Power > 0):
		l.cmds = append(l.cmds, a.C)
		if a.Sync && code == impl.StOk {
			l.synced, l.exists = len(l.cmds), true
		}
	case a.Kind == impl.AcOpen && code == impl.StOk && !sameDisk(before, n):
		l.synced, l.exists = len(l.cmds), true
	}
	return code
}

// wantPromise12 checks what a disk after a loss of power has in its log.
func (l *ledger) wantPromise12(t *testing.T, what string, d impl.Disk) int {
	t.Helper()
	got, code := impl.StoreView(d)
	many := len(got)
	lost := code == impl.StNone && !l.exists && l.synced == 0
	if !lost && (code != impl.StOk || many < l.synced || many > len(l.cmds) || !slices.Equal(got, l.cmds[:many])) {
		t.Errorf("%s: the log has %d commands of at least %d and at most %d, code %d", what, many, l.synced, len(l.cmds), code)
	}
	return many
}

// wantCrashes checks the log after several losses of power, and what becomes of it when it is opened.
func (l *ledger) wantCrashes(t *testing.T, d *dice) {
	t.Helper()
	if got, code := impl.StoreView(l.d); code == impl.StOk && !slices.Equal(got, l.cmds) {
		t.Errorf("the log has %d commands, want %d", len(got), len(l.cmds))
	}
	keeps := [][]int64{randomSubset(d, len(l.d.Ops)), randomSubset(d, len(l.d.Ops))}
	if len(l.d.Ops) <= 4 {
		keeps = subsets(len(l.d.Ops))
	}
	for _, keep := range keeps {
		torn := d.roll(30)
		left, ok := impl.Crash(l.d, keep, torn)
		if !ok {
			t.Fatalf("Crash(%v) of %v is not possible", keep, l.d)
		}
		what := fmt.Sprintf("%v with %d of %v", keep, torn, l.d)
		many := l.wantPromise12(t, what, left)
		for power := int64(-1); power < 6; power++ {
			n, code := impl.StoreDo(l.d, crash(power, torn, keep...))
			if l.wantPromise12(t, what, n) != many || code != impl.StOk && power < 0 && (l.exists || code != impl.StNone) {
				t.Errorf("%s: opened with power %d, code %d", what, power, code)
			}
			again, ok := impl.Crash(n, randomSubset(d, len(n.Ops)), d.roll(60))
			if !ok || l.wantPromise12(t, what+", again", again) != many {
				t.Errorf("%s: after another loss of power", what)
			}
		}
	}
}

func TestNoLossOfPowerLosesSyncedCommands(t *testing.T) {
	d := dice(124)
	lossy := 0
	for i := range 150 {
		l := &ledger{}
		if i%3 > 0 {
			l.do(newLog(d.roll(4) - 1))
		}
		for step := range int64(25) {
			c := buys(1, 1+step, 1+d.roll(1000), 5)
			switch d.roll(12) {
			case 0:
				l.do(newLog(d.roll(4) - 1))
			case 1:
				l.do(openLog(d.roll(7) - 1))
			case 2:
				l.lose(t, &d)
			case 3:
				l.spoil(&d)
			case 4, 5:
				l.do(addTo(c, true, d.roll(4)-1))
			default:
				l.do(addTo(c, false, d.roll(6)-1))
			}
			l.wantCrashes(t, &d)
			if l.synced < len(l.cmds) {
				lossy++
			}
		}
	}
	if lossy < 500 {
		t.Errorf("there were only %d disks with unsynced commands", lossy)
	}
}

// lose goes on with the disk after a loss of power, opened or opened in part.
func (l *ledger) lose(t *testing.T, d *dice) {
	t.Helper()
	n, code := impl.StoreDo(l.d, crash(d.roll(7)-1, d.roll(30), randomSubset(d, len(l.d.Ops))...))
	many := l.wantPromise12(t, "a loss of power", n)
	l.d, l.cmds, l.synced, l.exists = n, slices.Clone(l.cmds[:many]), many, code != impl.StNone
}

// spoil appends something to the log that is no frame, so that it must be opened.
func (l *ledger) spoil(d *dice) {
	if _, code := impl.StoreView(l.d); code == impl.StOk {
		l.d, _ = impl.Do(l.d, adds("log", strings.Repeat("?", int(d.roll(3)))))
	}
}

type storeArgs struct {
	D    impl.Disk
	Acts []impl.Act
}

func TestStoresAreNotChanged(t *testing.T) {
	all := map[string]impl.Disk{
		"example":   exampleStore(t),
		"torn":      withLog("x", file("log.new", "y")),
		"unsynced":  after(withLog("x"), adds("log", "y"), adds("log.new", "z")),
		"no log":    exampleDisk(),
		"zero":      {},
		"200":       withLog(logOf(numberedCmds(200)...)),
		"full":      after(withLog(""), manyOps(200)...),
		"60 files":  withLog("x", manyFiles(59, 0)...),
		"not valid": disk(files(file("log", "")), nil),
		"lost":      after(impl.Disk{}, adds("log", "")),
	}
	for name, d := range all {
		var acts []impl.Act
		for kind := int64(0); kind <= 4; kind++ {
			for _, power := range []int64{-1, 0, 1, 2, 3, 4} {
				for _, keep := range [][]int64{nil, {0}, {0, 1}, {0, 0}} {
					acts = append(acts, impl.Act{Kind: kind, C: numberedCmds(1)[0], Sync: power == 4, Power: power, Keep: keep, Torn: 1})
				}
			}
		}
		for _, a := range acts {
			wantKept(t, name+": StoreDo", storeArgs{D: d, Acts: []impl.Act{a}}, func(x storeArgs) impl.Disk {
				n, _ := impl.StoreDo(x.D, x.Acts[0])
				return n
			})
		}
		for i := range 10 {
			wantKept(t, name+": StorePlay", storeArgs{D: d, Acts: acts[i : i*i]}, func(x storeArgs) storePlayed {
				n, codes := impl.StorePlay(x.D, x.Acts)
				return storePlayed{n, codes}
			})
		}
		wantKept(t, name+": StoreView", d, func(d impl.Disk) []impl.Cmd {
			l, _ := impl.StoreView(d)
			return l
		})
	}
}

type storePlayed struct {
	D     impl.Disk
	Codes []int64
}

func TestEqualStoresYieldEqualResults(t *testing.T) {
	d := dice(125)
	for range 150 {
		x := randomDisk(&d, 8)
		y := withRoom(x)
		a := randomAct(&d, x, numberedCmds(1)[0])
		b := withRoom(a)
		n, code := impl.StoreDo(x, a)
		if m, same := impl.StoreDo(y, b); !sameDisk(n, m) || code != same {
			t.Errorf("StoreDo of %v: %d and %d; %s", a, code, same, difference(n, m))
		}
		l, code := impl.StoreView(n)
		if m, same := impl.StoreView(withRoom(n)); !slices.Equal(l, m) || code != same {
			t.Errorf("StoreView of %v: %v and %v", n, l, m)
		}
		n, codes := impl.StorePlay(x, []impl.Act{a, newLog(-1), a})
		if m, same := impl.StorePlay(y, withRoom([]impl.Act{b, newLog(-1), b})); !sameDisk(n, m) || !slices.Equal(codes, same) {
			t.Errorf("StorePlay of %v: %v and %v", a, codes, same)
		}
	}
	empty := impl.Disk{Live: []impl.File{}, Safe: []impl.File{}, Ops: []impl.DOp{}}
	if n, codes := impl.StorePlay(empty, []impl.Act{newLog(-1), {Kind: impl.AcCrash, Keep: []int64{}}}); !sameDisk(n, withLog("")) || !slices.Equal(codes, []int64{0, 0}) {
		t.Errorf("with empty lists: %v, %v", n, codes)
	}
}
