package tests

import (
	"fmt"
	"math"
	"slices"
	"strings"
	"testing"

	"loop.example/g00609/impl"
)

// wantCrash checks a loss of power after which there are files.
func wantCrash(t *testing.T, d impl.Disk, keep []int64, torn int64, want ...impl.File) {
	t.Helper()
	if n, ok := impl.Crash(d, keep, torn); !ok || !sameDisk(n, synced(want...)) || !impl.DiskOk(n) {
		t.Errorf("Crash(%v, %d) of %v returns %v, %v", keep, torn, d, n, ok)
	}
}

func wantNoCrash(t *testing.T, what string, d impl.Disk, keep []int64, torn int64) {
	t.Helper()
	if n, ok := impl.Crash(d, keep, torn); ok || !isEmptyDisk(n) {
		t.Errorf("%s: Crash returns %v, %v", what, n, ok)
	}
}

func TestCrashTearsTheLastAppend(t *testing.T) {
	d := exampleDisk()
	log, b := file("log", "abcd"), file("b", "x")
	wantCrash(t, d, nil, 0, file("log", "ab"))
	wantCrash(t, d, nil, 9, file("log", "ab"))
	for torn, data := range map[int64]string{0: "ab", 1: "abc", 2: "abcd", 3: "abcd", math.MaxInt64: "abcd"} {
		wantCrash(t, d, []int64{0}, torn, file("log", data))
	}
	for torn, data := range map[int64]string{0: "", 1: "x", 2: "x", math.MaxInt64: "x"} {
		wantCrash(t, d, []int64{1}, torn, file("b", data), file("log", "ab"))
		wantCrash(t, d, []int64{0, 1}, torn, file("b", data), log)
	}
	for _, torn := range []int64{-1, math.MinInt64} {
		for _, keep := range subsets(2) {
			wantNoCrash(t, "torn is negative", d, keep, torn)
		}
		wantNoCrash(t, "torn is negative", impl.Disk{}, nil, torn)
	}
	for _, op := range []impl.DOp{renames("log", "a"), erases("log"), renames("none", "b")} {
		x := after(synced(file("log", "ab"), file("none", "?")), adds("log", "cd"), op)
		s := shelfOf(x.Live)
		wantCrash(t, x, []int64{0, 1}, 0, s.list()...)
		wantCrash(t, x, []int64{0}, 1, file("log", "abc"), file("none", "?"))
	}
	n := after(d, erases("b"), adds("log", "efg"))
	wantCrash(t, n, []int64{1, 2, 3}, 2, file("log", "abef"))
	wantCrash(t, n, []int64{0, 1}, 1, b, log)
	wantCrash(t, impl.Disk{}, nil, 0)
}

func TestCrashChecksTheIndexes(t *testing.T) {
	d := exampleDisk()
	for _, keep := range [][]int64{{-1}, {2}, {0, 2}, {0, 1, 2}, {-1, 0}, {0, 0}, {1, 1}, {0, 1, 1}, {1, 0}, {math.MinInt64}, {math.MaxInt64}, {256}} {
		wantNoCrash(t, fmt.Sprint(keep), d, keep, 1)
		wantNoCrash(t, fmt.Sprint(keep), impl.Sync(d), keep, 1)
	}
	for _, keep := range [][]int64{{0}, {1}, {0, 1}} {
		wantNoCrash(t, "no operations", impl.Sync(d), keep, 1)
	}
	full := after(impl.Disk{}, manyOps(200)...)
	var all []int64
	for i := range int64(200) {
		all = append(all, i)
	}
	wantCrash(t, full, all, 0, full.Live...)
	wantCrash(t, full, all[:199], 1, after(impl.Disk{}, manyOps(199)...).Live...)
	wantNoCrash(t, "201 indexes", full, append(all, 200), 0)
	wantNoCrash(t, "the last twice", full, append(all, 199), 0)
}

func TestCrashWithoutTheFile(t *testing.T) {
	d := after(synced(file("x", "0")), adds("a", "1"), renames("a", "x"), adds("x", "2"), erases("x"))
	wantCrash(t, d, []int64{1}, 0, file("x", "0"))
	wantCrash(t, d, []int64{1, 2}, 1, file("x", "02"))
	wantCrash(t, d, []int64{0, 1, 2}, 1, file("x", "12"))
	wantCrash(t, d, []int64{0, 2}, 1, file("a", "1"), file("x", "02"))
	wantCrash(t, d, []int64{3}, 0)
	wantCrash(t, d, []int64{0, 3}, 0, file("a", "1"))
	n := after(impl.Disk{}, adds("a", "1"), renames("a", "a"), renames("a", "b"), erases("b"))
	for _, keep := range [][]int64{{1}, {2}, {3}, {1, 2}, {1, 2, 3}} {
		wantCrash(t, n, keep, 7)
	}
	wantCrash(t, n, []int64{0, 1}, 0, file("a", "1"))
	wantCrash(t, n, []int64{0, 3}, 0, file("a", "1"))
}

func TestCrashOntoAFullDisk(t *testing.T) {
	full := manyFiles(60, 0)
	d := after(synced(full...), erases("f00"), adds("g", ""), erases("f01"), adds("h", ""))
	wantNoCrash(t, "61 files", d, []int64{1}, 0)
	wantNoCrash(t, "61 files", d, []int64{0, 1, 3}, 0)
	wantCrash(t, d, []int64{0, 1}, 0, append(slices.Clone(full[1:]), file("g", ""))...)
	wantCrash(t, d, []int64{1, 2}, 0, append(slices.Delete(slices.Clone(full), 1, 2), file("g", ""))...)

	large := strings.Repeat("x", 200000)
	d = after(synced(file("a", large[:199998])), erases("a"), adds("b", large[:199999]), erases("b"), adds("c", "123"))
	wantNoCrash(t, "200001 bytes", d, []int64{3}, 3)
	wantNoCrash(t, "200001 bytes", d, []int64{3}, math.MaxInt64)
	wantCrash(t, d, []int64{3}, 2, file("a", large[:199998]), file("c", "12"))
	wantCrash(t, d, []int64{1}, 2, file("a", large[:199998]), file("b", "xx"))
	wantNoCrash(t, "200001 bytes", d, []int64{1}, 3)
	wantNoCrash(t, "much more", d, []int64{1}, 199999)
	wantCrash(t, d, []int64{1, 2}, 0, file("a", large[:199998]))
}

func TestCrashOfMuchData(t *testing.T) {
	var ops []impl.DOp
	data := strings.Repeat("x", 200000)
	for range 100 {
		ops = append(ops, adds("a", data), erases("a"))
	}
	d := after(impl.Disk{}, ops...)
	var appends []int64
	for i := int64(0); i < 200; i += 2 {
		appends = append(appends, i)
	}
	wantNoCrash(t, "all appends", d, appends, 0)
	wantCrash(t, d, append(appends, 199), 0)
	wantCrash(t, d, []int64{100}, 200000, file("a", data))
}

func TestCrashRandomly(t *testing.T) {
	d := dice(113)
	for range 150 {
		x := randomDisk(&d, 7)
		for _, keep := range subsets(len(x.Ops)) {
			torn := d.roll(10)
			want, _ := crashModel(x, keep, torn)
			wantCrash(t, x, keep, torn, want.Live...)
		}
	}
}

func TestCrashOfAllAndOfNoOperations(t *testing.T) {
	all := validDisks()
	d := dice(114)
	for i := range 200 {
		all[fmt.Sprint("random ", i)] = randomDisk(&d, d.roll(30))
	}
	for name, x := range all {
		var keep []int64
		for i := range x.Ops {
			keep = append(keep, int64(i))
		}
		for _, torn := range []int64{200000, math.MaxInt64} {
			if n, ok := impl.Crash(x, keep, torn); !ok || !sameDisk(n, impl.Sync(x)) {
				t.Errorf("%s: with all operations, %v", name, n)
			}
		}
		for _, torn := range []int64{0, 5} {
			if n, ok := impl.Crash(x, nil, torn); !ok || !sameDisk(n, synced(x.Safe...)) {
				t.Errorf("%s: without operations, %v", name, n)
			}
		}
	}
}

// wantReplaced checks the operations with which a file is replaced.
func wantReplaced(t *testing.T, d impl.Disk, name string, data string, ops ...impl.DOp) {
	t.Helper()
	if n, code := impl.Replace(d, name, data); code != impl.DkOk || !sameDisk(n, after(d, ops...)) {
		t.Errorf("Replace(%q, %q) of %v returns %v, %d", name, data, d, n, code)
	}
}

func wantNotReplaced(t *testing.T, what string, d impl.Disk, name string, data string, code int64) {
	t.Helper()
	if n, got := impl.Replace(d, name, data); got != code || !sameDisk(n, d) {
		t.Errorf("%s: Replace returns %d, want %d, and %v", what, got, code, n)
	}
}

func TestReplace(t *testing.T) {
	d := synced(file("a", "1"), file("b", "2"), file("b.new", "3"))
	wantReplaced(t, d, "a", "4", adds("a.new", "4"), renames("a.new", "a"))
	wantReplaced(t, d, "a", "", adds("a.new", ""), renames("a.new", "a"))
	wantReplaced(t, d, "b", "4", erases("b.new"), adds("b.new", "4"), renames("b.new", "b"))
	wantReplaced(t, d, "b.new", "4", adds("b.new.new", "4"), renames("b.new.new", "b.new"))
	wantReplaced(t, d, "c", "4", adds("c.new", "4"), renames("c.new", "c"))
	wantReplaced(t, exampleDisk(), "log", "4", adds("log.new", "4"), renames("log.new", "log"))
	n := after(d, erases("b.new"))
	wantReplaced(t, n, "b", "4", adds("b.new", "4"), renames("b.new", "b"))
	n = after(d, adds("a.new", "5"))
	wantReplaced(t, n, "a", "4", erases("a.new"), adds("a.new", "4"), renames("a.new", "a"))
}

func TestReplaceOfLongNames(t *testing.T) {
	for _, n := range []int{1, 95, 96} {
		name := strings.Repeat("n", n)
		for _, d := range []impl.Disk{{}, synced(file(name, "1")), exampleDisk()} {
			wantReplaced(t, d, name, "4", adds(name+".new", "4"), renames(name+".new", name))
		}
		d := synced(file(name, "1"), file(name+".new", "2"))
		wantReplaced(t, d, name, "4", erases(name+".new"), adds(name+".new", "4"), renames(name+".new", name))
	}
	for _, n := range []int{97, 98, 100, 101, 1000} {
		name := strings.Repeat("n", n)
		wantNotReplaced(t, "no file", impl.Disk{}, name, "4", impl.DkForm)
		wantNotReplaced(t, "the name without its end", synced(file(name[:96], "1"), file(name[:96]+".new", "1")), name, "4", impl.DkForm)
		wantNotReplaced(t, "a full disk", after(impl.Disk{}, manyOps(200)...), name, "4", impl.DkForm)
		if n <= 100 {
			wantNotReplaced(t, "the file", synced(file(name, "1")), name, "4", impl.DkForm)
		}
	}
}

func TestReplaceOfNoName(t *testing.T) {
	wantNotReplaced(t, "no file", impl.Disk{}, "", "4", impl.DkForm)
	wantNotReplaced(t, "a file with the other name", synced(file(".new", "1")), "", "4", impl.DkForm)
	wantNotReplaced(t, "a file that does not fit", synced(manyFiles(60, 0)...), "", "4", impl.DkFull)
	wantNotReplaced(t, "no operation is left behind the append", after(impl.Disk{}, manyOps(199)...), "", "4", impl.DkForm)
}

func TestReplaceThatFails(t *testing.T) {
	for ops, code := range map[int]int64{197: impl.DkOk, 198: impl.DkOk, 199: impl.DkFull, 200: impl.DkFull} {
		d := after(synced(file("c", "1")), manyOps(ops)...)
		if n, got := impl.Replace(d, "c", "2"); got != code || code != impl.DkOk && !sameDisk(n, d) {
			t.Errorf("%d operations: Replace returns %v, %d", ops, n, got)
		}
	}
	for ops, code := range map[int]int64{196: impl.DkOk, 197: impl.DkOk, 198: impl.DkFull, 199: impl.DkFull, 200: impl.DkFull} {
		d := after(synced(file("c", "1"), file("c.new", "3")), manyOps(ops)...)
		if n, got := impl.Replace(d, "c", "2"); got != code || code != impl.DkOk && !sameDisk(n, d) {
			t.Errorf("%d operations, with a file to remove: Replace returns %v, %d", ops, n, got)
		}
	}
	full := synced(manyFiles(60, 0)...)
	wantNotReplaced(t, "60 files", full, "f00", "1", impl.DkFull)
	wantReplaced(t, synced(manyFiles(59, 0)...), "f00", "1", adds("f00.new", "1"), renames("f00.new", "f00"))
	with := synced(append(slices.Clone(full.Live[:59]), file("f58.new", "1"))...)
	wantReplaced(t, with, "f58", "2", erases("f58.new"), adds("f58.new", "2"), renames("f58.new", "f58"))

	half := strings.Repeat("x", 100000)
	wantReplaced(t, synced(file("a", half)), "a", half, adds("a.new", half), renames("a.new", "a"))
	wantNotReplaced(t, "200001 bytes", synced(file("a", half)), "a", half+"1", impl.DkFull)
	large := synced(file("a", half), file("a.new", half))
	wantReplaced(t, large, "a", half, erases("a.new"), adds("a.new", half), renames("a.new", "a"))
	wantNotReplaced(t, "200001 bytes, after the removal", large, "a", half+"1", impl.DkFull)
}

func TestAReplacedFileIsOldOrNew(t *testing.T) {
	d := dice(115)
	for range 300 {
		x := impl.Sync(randomDisk(&d, 5))
		name := []string{"a", "b", "z", "other"}[d.roll(4)]
		old, had := impl.ReadFile(x, name)
		n, code := impl.Replace(x, name, "12345")
		if data, ok := impl.ReadFile(n, name); code != impl.DkOk || len(n.Ops) != 2 || !ok || data != "12345" {
			t.Fatalf("Replace of %v returns %v, %d", x, n, code)
		}
		for _, keep := range subsets(2) {
			for torn := int64(0); torn < 7; torn++ {
				c, ok := impl.Crash(n, keep, torn)
				data, has := impl.ReadFile(c, name)
				isNew := has && data == "12345"
				if !ok || has && data != old && !isNew || !has && had || isNew != (len(keep) == 2) {
					t.Fatalf("%v of %v: %v", keep, n, c)
				}
			}
		}
	}
}
