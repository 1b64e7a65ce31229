package tests

import (
	"slices"
	"strings"

	"loop.example/g00609/impl"
)

// A shelf is a model of a list of files: their data by their names.
type shelf map[string]string

func shelfOf(l []impl.File) shelf {
	s := shelf{}
	for _, x := range l {
		s[x.Name] = x.Data
	}
	return s
}

func (s shelf) list() []impl.File {
	var l []impl.File
	for name, data := range s {
		l = append(l, file(name, data))
	}
	slices.SortFunc(l, func(a impl.File, b impl.File) int { return strings.Compare(a.Name, b.Name) })
	return l
}

// apply performs an operation of a valid form, and returns whether it has found its file.
func (s shelf) apply(op impl.DOp) bool {
	if op.Kind == impl.DkAppend {
		s[op.Name] = s[op.Name] + op.Data
		return true
	}
	data, ok := s[op.Name]
	delete(s, op.Name)
	if ok && op.Kind == impl.DkRename {
		s[op.To] = data
	}
	return ok
}

func (s shelf) fits() bool {
	all := ""
	for _, data := range s {
		all += data
	}
	return len(s) <= 60 && len(all) <= 200000
}

func validName(name string) bool {
	return len(name) >= 1 && len(name) <= 100
}

func validOp(op impl.DOp) bool {
	switch op.Kind {
	case 1:
		return validName(op.Name) && len(op.To) == 0
	case 2:
		return validName(op.Name) && validName(op.To) && len(op.Data) == 0
	case 3:
		return validName(op.Name) && len(op.To)+len(op.Data) == 0
	}
	return false
}

// doModel performs an operation on a valid disk.
func doModel(d impl.Disk, op impl.DOp) (impl.Disk, int64) {
	s := shelfOf(d.Live)
	if !validOp(op) {
		return d, impl.DkForm
	}
	if !s.apply(op) {
		return d, impl.DkNone
	}
	if len(d.Ops) >= 200 || !s.fits() {
		return d, impl.DkFull
	}
	return impl.Disk{Live: s.list(), Safe: d.Safe, Ops: append(slices.Clone(d.Ops), op)}, impl.DkOk
}

// crashModel goes through all operations of a valid disk.
func crashModel(d impl.Disk, keep []int64, torn int64) (impl.Disk, bool) {
	s := shelfOf(d.Safe)
	for i, op := range d.Ops {
		if !slices.Contains(keep, int64(i)) {
			continue
		}
		if int64(i) == slices.Max(keep) && int64(len(op.Data)) > torn {
			op.Data = op.Data[:torn]
		}
		s.apply(op)
	}
	if !s.fits() {
		return impl.Disk{}, false
	}
	return synced(s.list()...), true
}

func file(name string, data string) impl.File {
	return impl.File{Name: name, Data: data}
}

func files(l ...impl.File) []impl.File { return l }

// synced returns a disk without operations.
func synced(l ...impl.File) impl.Disk {
	return impl.Disk{Live: slices.Clone(l), Safe: slices.Clone(l)}
}

// disk returns a disk with what is in its lists, valid or not.
func disk(live []impl.File, safe []impl.File, ops ...impl.DOp) impl.Disk {
	return impl.Disk{Live: live, Safe: safe, Ops: ops}
}

// after returns the disk after operations, each of which the model accepts.
func after(d impl.Disk, ops ...impl.DOp) impl.Disk {
	for _, op := range ops {
		n, code := doModel(d, op)
		if code != impl.DkOk {
			panic("an operation that a disk does not accept")
		}
		d = n
	}
	return d
}

func adds(name string, data string) impl.DOp {
	return impl.DOp{Kind: impl.DkAppend, Name: name, Data: data}
}

func renames(name string, to string) impl.DOp {
	return impl.DOp{Kind: impl.DkRename, Name: name, To: to}
}

func erases(name string) impl.DOp {
	return impl.DOp{Kind: impl.DkRemove, Name: name}
}

func sameDisk(a impl.Disk, b impl.Disk) bool {
	return slices.Equal(a.Live, b.Live) && slices.Equal(a.Safe, b.Safe) && slices.Equal(a.Ops, b.Ops)
}

func isEmptyDisk(d impl.Disk) bool {
	return sameDisk(d, impl.Disk{})
}

// manyFiles returns n files, each with data of the size.
func manyFiles(n int, size int) []impl.File {
	var l []impl.File
	for i := range n {
		l = append(l, file(string([]byte{'f', byte('0' + i/10), byte('0' + i%10)}), strings.Repeat("x", size)))
	}
	return l
}

func randomOp(d *dice, names []string) impl.DOp {
	name, to := names[d.roll(int64(len(names)))], names[d.roll(int64(len(names)))]
	switch d.roll(6) {
	case 0:
		return renames(name, to)
	case 1:
		return erases(name)
	case 2:
		return adds(name, "")
	}
	return adds(name, strings.Repeat(string(rune('a'+d.roll(26))), int(d.roll(9))))
}

// randomDisk returns a disk with some operations on a few names, most of them unsynced.
func randomDisk(d *dice, ops int64) impl.Disk {
	names := []string{"a", "b", "log", "log.new", "z"}
	x := impl.Disk{}
	for i := range 6 + ops {
		if i == 6 {
			x = synced(x.Live...)
		}
		x, _ = doModel(x, randomOp(d, names))
	}
	return x
}

// subsets returns all subsets of the indexes of n operations, in order.
func subsets(n int) [][]int64 {
	all := [][]int64{nil}
	for i := range int64(n) {
		for _, l := range all {
			all = append(all, append(slices.Clone(l), i))
		}
	}
	return all
}

func randomSubset(d *dice, n int) []int64 {
	var l []int64
	for i := range int64(n) {
		if d.roll(2) == 0 {
			l = append(l, i)
		}
	}
	return l
}
