package tests

import (
	"fmt"
	"slices"
	"strings"
	"testing"

	"loop.example/g00609/impl"
)

// exampleDisk is d of the examples of chapter 11.
func exampleDisk() impl.Disk {
	return after(synced(file("log", "ab")), adds("log", "cd"), adds("b", "x"))
}

func TestDiskExamples(t *testing.T) {
	d, code := impl.Do(impl.Disk{}, adds("log", "ab"))
	if code != impl.DkOk {
		t.Fatalf("Do returns %d", code)
	}
	d = impl.Sync(d)
	for _, op := range []impl.DOp{adds("log", "cd"), adds("b", "x")} {
		if d, code = impl.Do(d, op); code != impl.DkOk {
			t.Fatalf("Do returns %d", code)
		}
	}
	if !impl.DiskOk(d) || !sameDisk(d, exampleDisk()) {
		t.Errorf("the disk is %v", d)
	}
	if n, ok := impl.Crash(d, []int64{0}, 1); !ok || !sameDisk(n, synced(file("log", "abc"))) {
		t.Errorf("Crash returns %v, %v", n, ok)
	}
	if data, ok := impl.ReadFile(d, "log"); !ok || data != "abcd" {
		t.Errorf("ReadFile returns %q, %v", data, ok)
	}
	n, code := impl.Replace(impl.Sync(d), "log", "new")
	want := disk(files(file("b", "x"), file("log", "new")), files(file("b", "x"), file("log", "abcd")), adds("log.new", "new"), renames("log.new", "log"))
	if code != impl.DkOk || !sameDisk(n, want) {
		t.Errorf("Replace returns %v, %d", n, code)
	}
}

func TestConstantsOfDisks(t *testing.T) {
	got := []int{impl.MaxFiles, impl.MaxBytes, impl.MaxOps, impl.DkAppend, impl.DkRename, impl.DkRemove, impl.DkOk, impl.DkDisk, impl.DkForm, impl.DkNone, impl.DkFull}
	if !slices.Equal(got, []int{60, 200000, 200, 1, 2, 3, 0, 1, 2, 3, 4}) {
		t.Errorf("the constants are %v", got)
	}
}

// manyOps returns operations that can be performed on an empty disk.
func manyOps(n int) []impl.DOp {
	kinds := []impl.DOp{adds("a", "1"), renames("a", "b"), adds("a", "2"), erases("b")}
	var l []impl.DOp
	for i := range n {
		l = append(l, kinds[i%4])
	}
	return l
}

func validDisks() map[string]impl.Disk {
	long := strings.Repeat("n", 100)
	two := files(file("a", "1"), file("b", "2"))
	return map[string]impl.Disk{
		"zero":                       {},
		"example":                    exampleDisk(),
		"an empty file":              synced(file("a", "")),
		"names of 1 and 100 bytes":   synced(file("a", ""), file(long, "x")),
		"names by their bytes":       synced(file("\x00", "0"), file("Z", "1"), file("a", "2"), file("a\x00", "3"), file("aa", "4"), file("\xc3", "5"), file("\xff", "6")),
		"60 files":                   synced(manyFiles(60, 3)...),
		"200000 bytes in a file":     synced(file("a", ""), file("b", strings.Repeat("x", 200000)), file("c", "")),
		"200000 bytes in 50 files":   synced(manyFiles(50, 4000)...),
		"200 operations":             after(impl.Disk{}, manyOps(200)...),
		"a new file":                 after(impl.Disk{}, adds(long, "")),
		"renamed":                    after(synced(two...), renames("a", "c"), renames("c", long), renames(long, "0")),
		"renamed onto another file":  after(synced(two...), renames("a", "b")),
		"renamed onto itself":        after(synced(two...), renames("b", "b")),
		"removed":                    after(synced(two...), erases("a"), erases("b")),
		"again as it was":            after(synced(two...), erases("a"), adds("a", "1")),
		"60 files, at last":          after(synced(manyFiles(59, 0)...), adds("new", "")),
		"60 files, renamed":          after(synced(manyFiles(60, 0)...), renames("f00", "x"), renames("x", "f01"), adds("y", "")),
		"200000 bytes, at last":      after(synced(manyFiles(1, 199990)...), adds("new", "0123456789")),
		"200000 bytes, in a sum":     after(synced(manyFiles(50, 3999)...), adds("f00", strings.Repeat("y", 49)), adds("new", "1")),
		"much data, one by one":      after(synced(manyFiles(1, 200000)...), erases("f00"), adds("b", strings.Repeat("y", 200000)), erases("b")),
		"an operation of no effect":  after(impl.Disk{}, adds("a", ""), erases("a")),
		"data of the names of files": after(synced(file("a", "b")), adds("a", "a"), renames("a", "log.new")),
	}
}

// listsThatAreNotValid are lists of files that no disk may have.
func listsThatAreNotValid() map[string][]impl.File {
	return map[string][]impl.File{
		"61 files":                 manyFiles(61, 0),
		"200001 bytes in a file":   manyFiles(1, 200001),
		"200001 bytes in 51 files": append(manyFiles(50, 4000), file("g", "1")),
		"a name of 0 bytes":        files(file("", "x")),
		"a name of 101 bytes":      files(file(strings.Repeat("n", 101), "x")),
		"equal names":              files(file("a", "1"), file("a", "1")),
		"decreasing names":         files(file("b", "1"), file("a", "1")),
		"not by their bytes":       files(file("a", "1"), file("B", "1")),
		"decreasing at the end":    files(file("a", ""), file("b", ""), file("d", ""), file("c", "")),
	}
}

func invalidDisks() map[string]impl.Disk {
	one, two := files(file("a", "1")), files(file("a", "1"), file("b", "2"))
	full := manyFiles(60, 0)
	large := manyFiles(1, 200000)
	long := strings.Repeat("n", 101)
	out := map[string]impl.Disk{
		"201 operations":                  disk(files(file("a", "2")), nil, append([]impl.DOp{adds("a", "")}, manyOps(200)...)...),
		"no operation, other data":        disk(one, files(file("a", "2"))),
		"no operation, other name":        disk(one, files(file("b", "1"))),
		"no operation, a file more":       disk(two, one),
		"no operation, a file less":       disk(one, two),
		"no operation, no file":           disk(nil, one),
		"an operation that is not read":   disk(one, one, adds("a", "2")),
		"another operation":               disk(files(file("a", "12")), one, adds("a", "1")),
		"operations in another order":     disk(files(file("a", "123")), one, adds("a", "3"), adds("a", "2")),
		"rename of no file":               disk(one, one, renames("b", "c")),
		"rename of no file onto one":      disk(one, one, renames("b", "a")),
		"remove of no file":               disk(one, one, erases("b")),
		"61 files in between":             disk(full, full, adds("new", ""), erases("new")),
		"200001 bytes in between":         disk(nil, large, adds("a", "1"), erases("a"), erases("f00")),
		"61 files at the end":             disk(append(manyFiles(60, 0), file("new", "")), full, adds("new", "")),
		"61 files at the beginning":       disk(full, manyFiles(61, 0), erases("f60")),
		"200001 bytes at the beginning":   disk(nil, manyFiles(1, 200001), erases("f00")),
		"equal names at the beginning":    disk(nil, files(file("a", ""), file("a", "")), erases("a")),
		"names in disorder, then removed": disk(nil, files(file("b", ""), file("a", "")), erases("a"), erases("b")),
		"no name, then removed":           disk(nil, files(file("", "")), erases("")),
		"a long name, then removed":       disk(nil, files(file(long, "")), erases(long)),
		"an appended file of a long name": disk(files(file(long, "")), nil, adds(long, "")),
		"renamed to a long name and back": disk(one, one, renames("a", long), renames(long, "a")),
		"kind 0":                          disk(nil, nil, impl.DOp{}),
		"live in disorder":                disk(files(file("b", ""), file("a", "")), nil, adds("b", ""), adds("a", "")),
	}
	for name, l := range listsThatAreNotValid() {
		out["both: "+name] = synced(l...)
		out["live: "+name] = disk(l, nil)
		out["safe: "+name] = disk(nil, l)
	}
	for name, op := range invalidOps() {
		out["operation: "+name] = disk(one, one, op)
	}
	return out
}

// invalidOps are operations whose forms are not valid, on the file a as far as they name one.
func invalidOps() map[string]impl.DOp {
	long := strings.Repeat("n", 101)
	out := map[string]impl.DOp{
		"append to no name":          adds("", ""),
		"append to a long name":      adds(long, ""),
		"rename of no name":          renames("", "a"),
		"rename of a long name":      renames(long, "a"),
		"rename to no name":          renames("a", ""),
		"rename to a long name":      renames("a", long),
		"remove of no name":          erases(""),
		"remove of a long name":      erases(long),
		"append with To":             {Kind: impl.DkAppend, Name: "a", To: "a"},
		"append with To and Data":    {Kind: impl.DkAppend, Name: "a", To: "b", Data: "c"},
		"remove with To":             {Kind: impl.DkRemove, Name: "a", To: "a"},
		"remove with Data":           {Kind: impl.DkRemove, Name: "a", Data: "1"},
		"rename with Data":           {Kind: impl.DkRename, Name: "a", To: "a", Data: "1"},
		"a Name of no kind, with To": {Name: "a", To: "b"},
	}
	for _, kind := range outside(impl.DkAppend, impl.DkRemove) {
		out[fmt.Sprint("kind ", kind)] = impl.DOp{Kind: kind, Name: "a"}
	}
	return out
}

func TestDiskOk(t *testing.T) {
	for name, d := range validDisks() {
		if !impl.DiskOk(d) {
			t.Errorf("%s: not valid", name)
		}
	}
	for name, d := range invalidDisks() {
		if impl.DiskOk(d) {
			t.Errorf("%s: valid", name)
		}
	}
	d := dice(111)
	for range 200 {
		if x := randomDisk(&d, 20); !impl.DiskOk(x) {
			t.Errorf("not valid: %v", x)
		}
	}
}

func TestOfAnInvalidDiskThereAreNoFiles(t *testing.T) {
	for name, d := range invalidDisks() {
		for _, op := range []impl.DOp{adds("a", "1"), erases("none"), {}} {
			if n, code := impl.Do(d, op); code != impl.DkDisk || !isEmptyDisk(n) {
				t.Errorf("%s: Do returns %v, %d", name, n, code)
			}
		}
		if n := impl.Sync(d); !isEmptyDisk(n) {
			t.Errorf("%s: Sync returns %v", name, n)
		}
		for _, keep := range [][]int64{nil, {0}} {
			if n, ok := impl.Crash(d, keep, 1); ok || !isEmptyDisk(n) {
				t.Errorf("%s: Crash returns %v", name, n)
			}
		}
		for _, x := range append(slices.Clone(d.Live), d.Safe...) {
			if data, ok := impl.ReadFile(d, x.Name); ok || data != "" {
				t.Errorf("%s: ReadFile returns %q", name, data)
			}
		}
		for _, file := range []string{"a", "", strings.Repeat("n", 101)} {
			if n, code := impl.Replace(d, file, "x"); code != impl.DkDisk || !isEmptyDisk(n) {
				t.Errorf("%s: Replace returns %v, %d", name, n, code)
			}
		}
	}
}

// wantDone checks what an operation makes of the files, and that it can be read.
func wantDone(t *testing.T, d impl.Disk, op impl.DOp, live ...impl.File) impl.Disk {
	t.Helper()
	n, code := impl.Do(d, op)
	want := disk(live, d.Safe, append(slices.Clone(d.Ops), op)...)
	if code != impl.DkOk || !sameDisk(n, want) || !impl.DiskOk(n) {
		t.Errorf("%v on %v: %v, %d", op, d, n, code)
	}
	for _, x := range live {
		if data, ok := impl.ReadFile(n, x.Name); !ok || data != x.Data {
			t.Errorf("%v on %v: %s has %q, %v", op, d, x.Name, data, ok)
		}
	}
	return n
}

// wantNotDone checks that an operation is rejected and nothing has changed.
func wantNotDone(t *testing.T, what string, d impl.Disk, op impl.DOp, code int64) {
	t.Helper()
	if n, got := impl.Do(d, op); got != code || !sameDisk(n, d) {
		t.Errorf("%s: Do returns %d, want %d, and %v", what, got, code, n)
	}
}

func TestDoAppends(t *testing.T) {
	d := wantDone(t, impl.Disk{}, adds("b", "1"), file("b", "1"))
	d = wantDone(t, d, adds("b", "23"), file("b", "123"))
	d = wantDone(t, d, adds("a", ""), file("a", ""), file("b", "123"))
	d = wantDone(t, d, adds("c", "\x00\xff"), file("a", ""), file("b", "123"), file("c", "\x00\xff"))
	d = wantDone(t, d, adds("b", ""), file("a", ""), file("b", "123"), file("c", "\x00\xff"))
	wantDone(t, d, adds("a", "4"), file("a", "4"), file("b", "123"), file("c", "\x00\xff"))
	wantDone(t, exampleDisk(), adds("B", "y"), file("B", "y"), file("b", "x"), file("log", "abcd"))
}

func TestDoRenames(t *testing.T) {
	d := synced(file("a", "1"), file("b", "2"), file("c", "3"))
	wantDone(t, d, renames("a", "d"), file("b", "2"), file("c", "3"), file("d", "1"))
	wantDone(t, d, renames("c", "Z"), file("Z", "3"), file("a", "1"), file("b", "2"))
	wantDone(t, d, renames("a", "b"), file("b", "1"), file("c", "3"))
	wantDone(t, d, renames("c", "a"), file("a", "3"), file("b", "2"))
	wantDone(t, d, renames("b", "b"), d.Live...)
	n := wantDone(t, d, renames("b", "a"), file("a", "2"), file("c", "3"))
	wantNotDone(t, "the file that was renamed", n, renames("b", "a"), impl.DkNone)
	wantNotDone(t, "no file, onto a file", d, renames("d", "a"), impl.DkNone)
	wantNotDone(t, "no file, onto itself", d, renames("d", "d"), impl.DkNone)
	wantNotDone(t, "no file at all", impl.Disk{}, renames("a", "b"), impl.DkNone)
}

func TestDoRemoves(t *testing.T) {
	d := synced(file("a", "1"), file("b", "2"), file("c", "3"))
	n := wantDone(t, d, erases("b"), file("a", "1"), file("c", "3"))
	n = wantDone(t, n, erases("a"), file("c", "3"))
	wantNotDone(t, "a file that was removed", n, erases("a"), impl.DkNone)
	n = wantDone(t, n, erases("c"))
	wantNotDone(t, "no file", n, erases("c"), impl.DkNone)
	wantDone(t, n, adds("b", "4"), file("b", "4"))
	wantNotDone(t, "a file that only Safe has", n, renames("b", "x"), impl.DkNone)
}

func TestDoRejectsForms(t *testing.T) {
	for name, op := range invalidOps() {
		wantNotDone(t, name, synced(file("a", "1")), op, impl.DkForm)
		wantNotDone(t, name+", no file", impl.Disk{}, op, impl.DkForm)
		wantNotDone(t, name+", 200 operations", after(impl.Disk{}, manyOps(200)...), op, impl.DkForm)
		wantNotDone(t, name+", 60 files", synced(manyFiles(60, 0)...), op, impl.DkForm)
	}
	wantNotDone(t, "too much Data, and To", impl.Disk{}, impl.DOp{Kind: impl.DkAppend, Name: "a", To: "b", Data: strings.Repeat("x", 200001)}, impl.DkForm)
}

func TestDoAtTheLimits(t *testing.T) {
	name := strings.Repeat("n", 100)
	wantDone(t, impl.Disk{}, adds(name, "1"), file(name, "1"))
	wantDone(t, synced(file("a", "1")), renames("a", name), file(name, "1"))
	wantDone(t, synced(file(name, "1")), renames(name, "b"), file("b", "1"))
	wantDone(t, synced(file(name, "1")), erases(name))

	wantDone(t, synced(manyFiles(59, 0)...), adds("f59", ""), manyFiles(60, 0)...)
	full := synced(manyFiles(60, 0)...)
	wantNotDone(t, "a 61st file", full, adds("g", ""), impl.DkFull)
	wantDone(t, full, adds("f59", "x"), append(manyFiles(59, 0), file("f59", "x"))...)
	wantDone(t, full, renames("f59", "g"), append(manyFiles(59, 0), file("g", ""))...)
	wantDone(t, full, erases("f59"), manyFiles(59, 0)...)

	data := strings.Repeat("x", 200000)
	wantDone(t, impl.Disk{}, adds("a", data), file("a", data))
	wantNotDone(t, "200001 bytes", impl.Disk{}, adds("a", data+"x"), impl.DkFull)
	wantNotDone(t, "a byte more in the file", synced(file("a", data)), adds("a", "x"), impl.DkFull)
	wantNotDone(t, "a byte more in a file", synced(file("a", data)), adds("b", "x"), impl.DkFull)
	wantDone(t, synced(file("a", data)), adds("b", ""), file("a", data), file("b", ""))
	wantDone(t, synced(file("a", data[1:])), adds("b", "x"), file("a", data[1:]), file("b", "x"))
	wantNotDone(t, "50 files", synced(manyFiles(50, 4000)...), adds("f00", "x"), impl.DkFull)
}

func TestDoOfAtMost200Operations(t *testing.T) {
	d := after(impl.Disk{}, manyOps(199)...)
	n := wantDone(t, d, adds("c", ""), append(slices.Clone(d.Live), file("c", ""))...)
	for _, op := range []impl.DOp{adds("c", "1"), adds("c", ""), adds("d", ""), renames("c", "c"), erases("c")} {
		wantNotDone(t, "a 201st operation", n, op, impl.DkFull)
	}
	wantNotDone(t, "a 201st operation on no file", n, erases("d"), impl.DkNone)
	wantNotDone(t, "a 201st operation on no file", n, renames("d", "c"), impl.DkNone)
	wantDone(t, impl.Sync(n), erases("c"), d.Live...)
}

func TestDoRandomly(t *testing.T) {
	d := dice(112)
	names := []string{"a", "b", "log", "log.new", "none", ""}
	for range 3000 {
		x := randomDisk(&d, d.roll(12))
		op := randomOp(&d, names)
		if d.roll(8) == 0 {
			op.Kind = d.roll(6)
		}
		want, code := doModel(x, op)
		if n, got := impl.Do(x, op); got != code || !sameDisk(n, want) {
			t.Fatalf("%v on %v: %v, %d, want %v, %d", op, x, n, got, want, code)
		}
	}
}

func TestSync(t *testing.T) {
	for name, d := range validDisks() {
		n := impl.Sync(d)
		if !sameDisk(n, synced(d.Live...)) || !sameDisk(impl.Sync(n), n) {
			t.Errorf("%s: Sync returns %v", name, n)
		}
	}
}

func TestReadFile(t *testing.T) {
	for name, d := range validDisks() {
		for _, x := range d.Live {
			if data, ok := impl.ReadFile(d, x.Name); !ok || data != x.Data {
				t.Errorf("%s: %s has %q, %v", name, x.Name, data, ok)
			}
		}
		for _, none := range []string{"", "none", "A", "a ", strings.Repeat("n", 101)} {
			if data, ok := impl.ReadFile(d, none); ok || data != "" {
				t.Errorf("%s: %q has %q, %v", name, none, data, ok)
			}
		}
	}
	d := after(synced(file("a", "1"), file("b", "2"), file("c", "3")), renames("a", "x"), erases("b"), adds("c", "4"))
	for name, want := range map[string]string{"a": "", "b": "", "c": "34", "x": "1"} {
		if data, ok := impl.ReadFile(d, name); data != want || ok != (want != "") {
			t.Errorf("%s has %q, %v", name, data, ok)
		}
	}
}

type diskArgs struct {
	D    impl.Disk
	Keep []int64
}

func TestDisksAreNotChanged(t *testing.T) {
	all := validDisks()
	maps := []map[string]impl.Disk{all, invalidDisks()}
	for _, m := range maps {
		for name, d := range m {
			if len(d.Live) > 0 && len(d.Live[0].Data) > 100000 {
				continue
			}
			for _, op := range []impl.DOp{adds("new", "1"), adds("a", "1"), renames("a", "c"), renames("b", "b"), erases("a"), {}} {
				wantKept(t, name+": Do", d, func(d impl.Disk) impl.Disk {
					n, _ := impl.Do(d, op)
					return n
				})
			}
			wantKept(t, name+": Sync", d, impl.Sync)
			for _, file := range []string{"log", "a", "", "b"} {
				wantKept(t, name+": Replace", d, func(d impl.Disk) impl.Disk {
					n, _ := impl.Replace(d, file, "1")
					return n
				})
			}
			for _, keep := range [][]int64{nil, {0}, {0, 1}, {9, 9}} {
				wantKept(t, name+": Crash", diskArgs{D: d, Keep: keep}, func(x diskArgs) impl.Disk {
					n, _ := impl.Crash(x.D, x.Keep, 1)
					return n
				})
			}
			wantKept(t, name+": DiskOk and ReadFile", d, func(d impl.Disk) bool {
				_, ok := impl.ReadFile(d, "log")
				return ok == impl.DiskOk(d)
			})
		}
	}
}

func TestEqualDisksYieldEqualResults(t *testing.T) {
	d := dice(116)
	for range 200 {
		x := randomDisk(&d, 10)
		y := withRoom(x)
		op, keep := randomOp(&d, []string{"a", "log", "none"}), randomSubset(&d, len(x.Ops))
		a, code := impl.Do(x, op)
		b, same := impl.Do(y, op)
		if !sameDisk(a, b) || code != same {
			t.Errorf("Do of %v: %v and %v", x, a, b)
		}
		if !sameDisk(impl.Sync(x), impl.Sync(y)) || !impl.DiskOk(y) {
			t.Errorf("Sync of %v differs", x)
		}
		a, _ = impl.Crash(x, keep, 3)
		if b, _ = impl.Crash(y, withRoom(keep), 3); !sameDisk(a, b) {
			t.Errorf("Crash of %v: %v and %v", x, a, b)
		}
		a, code = impl.Replace(x, "log", "1")
		if b, same = impl.Replace(y, "log", "1"); !sameDisk(a, b) || code != same {
			t.Errorf("Replace of %v: %v and %v", x, a, b)
		}
	}
	empty := impl.Disk{Live: []impl.File{}, Safe: []impl.File{}, Ops: []impl.DOp{}}
	if n, code := impl.Do(empty, adds("a", "1")); code != impl.DkOk || !impl.DiskOk(empty) || !sameDisk(n, after(impl.Disk{}, adds("a", "1"))) {
		t.Errorf("of a disk with empty lists: %v, %d", n, code)
	}
	if _, ok := impl.Crash(empty, []int64{}, 0); !ok {
		t.Error("Crash of a disk with empty lists")
	}
}
