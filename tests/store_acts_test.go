package tests

import (
	"fmt"
	"math"
	"slices"
	"strings"
	"testing"

	"loop.example/g00609/impl"
)

func newLog(power int64) impl.Act {
	return impl.Act{Kind: impl.AcNew, Power: power}
}

func addTo(c impl.Cmd, sync bool, power int64) impl.Act {
	return impl.Act{Kind: impl.AcAdd, C: c, Sync: sync, Power: power}
}

func openLog(power int64) impl.Act {
	return impl.Act{Kind: impl.AcOpen, Power: power}
}

func crash(power int64, torn int64, keep ...int64) impl.Act {
	return impl.Act{Kind: impl.AcCrash, Power: power, Torn: torn, Keep: keep}
}

// wantAct checks the result of an action, and that the model agrees.
func wantAct(t *testing.T, what string, d impl.Disk, a impl.Act, want impl.Disk, code int64) {
	t.Helper()
	if n, got := impl.StoreDo(d, a); got != code || !sameDisk(n, want) {
		t.Errorf("%s: kind %d with power %d returns %d, want %d; %s", what, a.Kind, a.Power, got, code, difference(n, want))
	}
	if n, got := actModel(d, a); got != code || !sameDisk(n, want) {
		t.Errorf("%s: the model returns %d for kind %d with power %d; %s", what, got, a.Kind, a.Power, difference(n, want))
	}
}

// difference describes two disks of which at least one may be large.
func difference(got impl.Disk, want impl.Disk) string {
	if sameDisk(got, want) {
		return "the disk is as it should be"
	}
	s := fmt.Sprintf("%v instead of %v", got, want)
	return s[:min(len(s), 2000)]
}

// wantRefusedAct checks an action that leaves the disk, with each power.
func wantRefusedAct(t *testing.T, what string, d impl.Disk, a impl.Act, code int64) {
	t.Helper()
	for _, power := range []int64{math.MinInt64, -1, 0, 1, 2, 9} {
		a.Power = power
		wantAct(t, what, d, a, d, code)
	}
}

// wantSteps checks an action with each power: states are the disks before its first step and behind each of its steps.
func wantSteps(t *testing.T, what string, a impl.Act, from impl.Disk, states ...impl.Disk) {
	t.Helper()
	last := len(states) - 1
	for _, power := range []int64{math.MinInt64, -256, -2, -1, int64(last), int64(last) + 1, 256, math.MaxInt64} {
		a.Power = power
		wantAct(t, what, from, a, states[last], impl.StOk)
	}
	for power := range last {
		a.Power = int64(power)
		wantAct(t, what, from, a, states[power], impl.StPower)
	}
}

// exampleStore is d of the examples of chapter 12.
func exampleStore(t *testing.T) impl.Disk {
	t.Helper()
	d := impl.Disk{}
	for i, c := range append([]impl.Cmd{{}}, numberedCmds(3)...) {
		a := addTo(c, false, -1)
		if i == 0 {
			a = newLog(-1)
		}
		n, code := impl.StoreDo(d, a)
		if code != impl.StOk {
			t.Fatalf("%v returns %d", a, code)
		}
		d = n
	}
	return d
}

func TestStoreExamples(t *testing.T) {
	d := exampleStore(t)
	wantView(t, "three commands", d, numberedCmds(3)...)
	for _, x := range []struct {
		a    impl.Act
		many int
	}{{crash(-1, 99, 0, 1), 2}, {crash(-1, 99, 1), 0}, {crash(-1, 9, 0, 1, 2), 2}} {
		n, code := impl.StoreDo(d, x.a)
		if code != impl.StOk {
			t.Errorf("AcCrash returns %d", code)
		}
		wantView(t, fmt.Sprint(x.a), n, numberedCmds(x.many)...)
	}
	wantAct(t, "a log", d, newLog(-1), d, impl.StForm)
	wantAct(t, "no log", impl.Disk{}, openLog(-1), impl.Disk{}, impl.StNone)
	n, codes := impl.StorePlay(d, []impl.Act{openLog(-1), {Kind: 9}})
	if !sameDisk(n, d) || !slices.Equal(codes, []int64{impl.StOk, impl.StForm}) {
		t.Errorf("StorePlay returns %v, %v", n, codes)
	}
}

func TestActsOnInvalidDisks(t *testing.T) {
	for name, d := range invalidDisks() {
		for kind := int64(0); kind <= 5; kind++ {
			for _, power := range []int64{-1, 0, 1} {
				a := impl.Act{Kind: kind, C: numberedCmds(1)[0], Power: power}
				if n, code := impl.StoreDo(d, a); code != impl.StDisk || !isEmptyDisk(n) {
					t.Errorf("%s: kind %d returns %v, %d", name, kind, n, code)
				}
			}
		}
		for _, l := range [][]impl.Act{nil, {newLog(-1)}, {crash(-1, 0), openLog(-1)}} {
			if n, codes := impl.StorePlay(d, l); !isEmptyDisk(n) || len(codes) != 0 {
				t.Errorf("%s: StorePlay returns %v, %v", name, n, codes)
			}
		}
	}
}

func TestActsOfNoKind(t *testing.T) {
	for _, kind := range outside(impl.AcNew, impl.AcCrash) {
		for _, d := range []impl.Disk{{}, exampleStore(t), withLog("x"), after(impl.Disk{}, manyOps(200)...)} {
			wantRefusedAct(t, "no kind", d, impl.Act{Kind: kind, C: numberedCmds(1)[0]}, impl.StForm)
		}
	}
}

func TestOtherFieldsOfActsAreNotRead(t *testing.T) {
	noise := impl.Act{C: impl.Cmd{Kind: 99}, Sync: true, Power: -1, Keep: []int64{7, -1}, Torn: -1}
	for kind, d := range map[int64]impl.Disk{impl.AcNew: {}, impl.AcOpen: withLog("x")} {
		a := noise
		a.Kind = kind
		want, _ := actModel(d, impl.Act{Kind: kind, Power: -1})
		wantAct(t, "noise", d, a, want, impl.StOk)
	}
	a := noise
	a.Kind, a.C = impl.AcAdd, numberedCmds(1)[0]
	wantAct(t, "noise", withLog(""), a, withLog(logOf(a.C)), impl.StOk)
	a = crash(-1, 0)
	a.C, a.Sync = noise.C, true
	wantAct(t, "noise", after(withLog(""), adds("log", "x")), a, withLog(""), impl.StOk)
}

func TestNewLogs(t *testing.T) {
	for _, d := range []impl.Disk{
		{},
		synced(file("lo", "2"), file("log.new", "1")),
		after(withLog("x"), erases("log")),
		exampleReplaced(),
		after(impl.Disk{}, manyOps(199)...),
		synced(manyFiles(59, 0)...),
		synced(manyFiles(1, 200000)...),
	} {
		begun := after(d, adds("log", ""))
		wantSteps(t, "no log", newLog(0), d, d, begun, synced(begun.Live...))
	}
	for _, d := range []impl.Disk{withLog(""), withLog("x"), after(impl.Disk{}, adds("log", "")), withLog(logOf(numberedCmds(201)...)), withLog("", manyFiles(59, 0)...)} {
		wantRefusedAct(t, "a log", d, newLog(0), impl.StForm)
	}
}

// exampleReplaced is a disk with operations and no log.
func exampleReplaced() impl.Disk {
	return after(synced(file("a", "1")), adds("a.new", "2"), renames("a.new", "a"))
}

func TestNewLogsOnFullDisks(t *testing.T) {
	for name, d := range map[string]impl.Disk{"60 files": synced(manyFiles(60, 0)...), "200 operations": after(impl.Disk{}, manyOps(200)...)} {
		for _, power := range []int64{-1, 1, 2, 3} {
			wantAct(t, name, d, newLog(power), d, impl.StFull)
		}
		wantAct(t, name, d, newLog(0), d, impl.StPower)
	}
}

func TestAddToALog(t *testing.T) {
	cmds := numberedCmds(200)
	for _, n := range []int{0, 1, 3, 9, 10, 11, 99, 100, 198, 199} {
		for _, d := range []impl.Disk{
			withLog(logOf(cmds[:n]...)),
			withLog(logOf(cmds[:n]...), file("log.new", "1")),
			after(impl.Disk{}, adds("log", logOf(cmds[:n]...))),
			after(withLog("x"), adds("a", ""), renames("a", "log"), adds("log", logOf(cmds[:n]...))),
		} {
			added := after(d, adds("log", entry(fmt.Sprint(n), cmds[n])))
			wantSteps(t, "unsynced", addTo(cmds[n], false, 0), d, d, added)
			wantSteps(t, "synced", addTo(cmds[n], true, 0), d, d, added, synced(added.Live...))
			wantView(t, "added", added, cmds[:n+1]...)
		}
	}
	for _, c := range sampleCmds() {
		wantAct(t, "each kind", withLog(""), addTo(c, true, -1), withLog(logOf(c)), impl.StOk)
	}
}

func TestAddToNoLog(t *testing.T) {
	for _, c := range []impl.Cmd{numberedCmds(1)[0], {}} {
		for _, d := range []impl.Disk{{}, synced(file("log.new", "")), after(withLog(""), erases("log")), synced(manyFiles(60, 0)...), after(impl.Disk{}, manyOps(200)...)} {
			wantRefusedAct(t, "no log", d, addTo(c, true, 0), impl.StNone)
		}
	}
}

func TestAddOfInvalidCommands(t *testing.T) {
	for _, c := range []impl.Cmd{{}, wide(impl.CkMass, 0), wide(impl.CkMass, 101), wide(11, 1), {Kind: impl.CkFree, Acct: 1, Qty: 1}, buys(1, 1, 1000001, 1)} {
		for _, log := range []string{"", "x", logOf(numberedCmds(200)...), logOf(numberedCmds(201)...), logOf(c)} {
			wantRefusedAct(t, "a command that is not valid", withLog(log), addTo(c, true, 0), impl.StForm)
		}
		full := after(withLog(""), manyOps(200)...)
		wantRefusedAct(t, "a command that is not valid, 200 operations", full, addTo(c, true, 0), impl.StForm)
	}
}

func TestAddToLogsThatAreTornOrFull(t *testing.T) {
	c := numberedCmds(1)[0]
	for _, x := range logCases() {
		if !x.whole {
			wantAct(t, x.name, withLog(x.log), addTo(c, true, -1), withLog(x.log), impl.StTorn)
			wantAct(t, x.name, withLog(x.log), addTo(c, true, 0), withLog(x.log), impl.StTorn)
		}
	}
	full := logOf(numberedCmds(200)...)
	wantRefusedAct(t, "200 commands", withLog(full), addTo(c, true, 0), impl.StFull)
	wantRefusedAct(t, "200 commands", withLog(full), addTo(c, false, 0), impl.StFull)
	wantRefusedAct(t, "200 commands and 200 operations", after(withLog(full), manyOps(200)...), addTo(c, true, 0), impl.StFull)
	wantRefusedAct(t, "200 commands and a byte", withLog(full+"\x00"), addTo(c, true, 0), impl.StTorn)
	wantRefusedAct(t, "201 commands", withLog(logOf(numberedCmds(201)...)), addTo(c, true, 0), impl.StTorn)
	wantRefusedAct(t, "torn, 200 operations", after(withLog("x"), manyOps(200)...), addTo(c, true, 0), impl.StTorn)
}

func TestAddOnFullDisks(t *testing.T) {
	c := numberedCmds(1)[0]
	room := len(logOf(c))
	for name, d := range map[string]impl.Disk{
		"200 operations": after(withLog(""), manyOps(200)...),
		"200000 bytes":   withLog("", file("a", strings.Repeat("x", 200000))),
		"a byte too few": withLog("", file("a", strings.Repeat("x", 200001-room))),
	} {
		for _, sync := range []bool{false, true} {
			for _, power := range []int64{-1, 1, 2, 3} {
				wantAct(t, name, d, addTo(c, sync, power), d, impl.StFull)
			}
			wantAct(t, name, d, addTo(c, sync, 0), d, impl.StPower)
		}
	}
	for name, d := range map[string]impl.Disk{
		"199 operations":        after(withLog(""), manyOps(199)...),
		"bytes enough":          withLog("", file("a", strings.Repeat("x", 200000-room))),
		"60 files, one the log": withLog("", manyFiles(59, 0)...),
	} {
		added := after(d, adds("log", logOf(c)))
		wantSteps(t, name, addTo(c, false, 0), d, d, added)
		wantSteps(t, name, addTo(c, true, 0), d, d, added, synced(added.Live...))
	}
}

// wantOpened checks each step of the opening of a log that is not complete.
func wantOpened(t *testing.T, what string, a impl.Act, from impl.Disk, d impl.Disk) {
	t.Helper()
	log := shelfOf(d.Live)["log"]
	cmds, size := readLog(log)
	states := []impl.Disk{d}
	if _, exists := shelfOf(d.Live)["log.new"]; exists {
		d = after(d, erases("log.new"))
		states = append(states, d)
	}
	d = after(d, adds("log.new", log[:size]))
	s := synced(d.Live...)
	n := after(s, renames("log.new", "log"))
	states = append(states, d, s, n, synced(n.Live...))
	wantSteps(t, what, a, from, states...)
	for _, x := range states {
		wantView(t, what, x, cmds...)
	}
}

func TestOpenLogs(t *testing.T) {
	for _, x := range logCases() {
		for _, others := range [][]impl.File{nil, {file("log.new", "")}, {file("a", "1"), file("log.new", "old"), file("z", "2")}} {
			d := withLog(x.log, others...)
			if x.whole {
				wantSteps(t, x.name, openLog(0), d, d)
				continue
			}
			if x.many > 20 || len(others) < 2 {
				wantOpened(t, x.name, openLog(0), d, d)
			}
			n, code := impl.StoreDo(d, openLog(-1))
			shelf := shelfOf(d.Live)
			delete(shelf, "log.new")
			shelf["log"] = logOf(numberedCmds(x.many)...)
			if code != impl.StOk || !sameDisk(n, synced(shelf.list()...)) {
				t.Errorf("%s: AcOpen returns %d; %s", x.name, code, difference(n, d))
			}
			wantSteps(t, x.name+", opened again", openLog(0), n, n)
		}
	}
}

func TestOpenLogsWithOperations(t *testing.T) {
	for name, d := range map[string]impl.Disk{
		"unsynced bytes":      after(withLog(logOf(numberedCmds(2)...)), adds("log", "x")),
		"an unsynced log":     after(impl.Disk{}, adds("a", "1"), adds("log", "x")),
		"an unsynced log.new": after(withLog("x"), adds("log.new", "y")),
		"a removed log.new":   after(withLog("x", file("log.new", "y")), erases("log.new")),
		"a renamed log.new":   after(withLog("x", file("log.new", logOf(numberedCmds(1)...)+"y")), renames("log.new", "log")),
	} {
		wantOpened(t, name, openLog(0), d, d)
	}
	complete := after(withLog("x"), erases("log"), adds("log", logOf(numberedCmds(2)...)), adds("log.new", "z"))
	wantSteps(t, "complete", openLog(0), complete, complete)
	complete = after(withLog(""), manyOps(200)...)
	wantSteps(t, "complete, 200 operations", openLog(0), complete, complete)
}

func TestOpenWithoutALog(t *testing.T) {
	for _, d := range []impl.Disk{{}, synced(file("log.new", logOf(numberedCmds(3)...))), after(withLog("x"), erases("log")), after(impl.Disk{}, manyOps(200)...)} {
		wantRefusedAct(t, "no log", d, openLog(0), impl.StNone)
	}
}

// wantNotOpened checks an opening of which the step with the number, from 0 on, is not possible.
func wantNotOpened(t *testing.T, what string, d impl.Disk, step int64) {
	t.Helper()
	for _, power := range []int64{-1, step + 1, step + 2, 9} {
		wantAct(t, what, d, openLog(power), d, impl.StFull)
	}
	states := []impl.Disk{d}
	if step > 0 {
		states = append(states, after(d, erases("log.new")))
	}
	for power, want := range states {
		wantAct(t, what, d, openLog(int64(power)), want, impl.StPower)
	}
}

func TestOpenOnFullDisks(t *testing.T) {
	three := logOf(numberedCmds(3)...)
	size := len(three)
	large := strings.Repeat("x", 200000)
	wantNotOpened(t, "60 files", withLog("x", manyFiles(59, 0)...), 0)
	wantNotOpened(t, "200 operations", after(withLog("x"), manyOps(200)...), 0)
	wantNotOpened(t, "200000 bytes", withLog(three+"x", file("a", large[:199999-size])), 0)
	wantNotOpened(t, "a byte too few", withLog(three+"x", file("a", large[:200000-2*size])), 0)
	wantOpened(t, "bytes enough", openLog(0), withLog(three+"x", file("a", large[:199999-2*size])), withLog(three+"x", file("a", large[:199999-2*size])))
	wantOpened(t, "199 operations", openLog(0), after(withLog("x"), manyOps(199)...), after(withLog("x"), manyOps(199)...))
	wantOpened(t, "59 files", openLog(0), withLog("x", manyFiles(58, 0)...), withLog("x", manyFiles(58, 0)...))
	wantOpened(t, "no bytes to write", openLog(0), withLog(large), withLog(large))

	with := func(data string, others ...impl.File) impl.Disk {
		return withLog(three+"x", append(others, file("log.new", data))...)
	}
	wantNotOpened(t, "200 operations, with log.new", after(with(""), manyOps(200)...), 0)
	wantNotOpened(t, "199 operations, with log.new", after(with(""), manyOps(199)...), 1)
	wantNotOpened(t, "a byte too few, with log.new", with("", file("a", large[:200000-2*size])), 1)
	for name, d := range map[string]impl.Disk{
		"198 operations, with log.new": after(with(""), manyOps(198)...),
		"60 files, with log.new":       with("", manyFiles(58, 0)...),
		"200000 bytes, with log.new":   with(large[:199999-size]),
	} {
		wantOpened(t, name, openLog(0), d, d)
	}
}
