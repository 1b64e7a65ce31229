package tests

import (
	"cmp"
	"reflect"
	"slices"
	"testing"
)

// remade returns a copy of a value in which each list is remade.
func remade(v reflect.Value, list func(l reflect.Value) reflect.Value) reflect.Value {
	n := reflect.New(v.Type()).Elem()
	switch v.Kind() {
	case reflect.Slice:
		n.Set(list(v))
		for i := range n.Len() {
			n.Index(i).Set(remade(n.Index(i), list))
		}
	case reflect.Struct:
		for i := range n.NumField() {
			n.Field(i).Set(remade(v.Field(i), list))
		}
	default:
		n.Set(v)
	}
	return n
}

func remadeAs[T any](x T, list func(l reflect.Value) reflect.Value) T {
	return remade(reflect.ValueOf(&x).Elem(), list).Interface().(T)
}

func copyOfList(l reflect.Value, room int) reflect.Value {
	n := reflect.MakeSlice(l.Type(), l.Len(), l.Len()+room)
	reflect.Copy(n, l)
	return n
}

func exactList(l reflect.Value) reflect.Value {
	return copyOfList(l, 0)
}

// roomyList returns a copy with elements behind it that nobody may touch.
func roomyList(l reflect.Value) reflect.Value {
	n := copyOfList(l, 3)
	for i := range 3 {
		mark(n.Slice(0, n.Cap()).Index(l.Len() + i))
	}
	return n
}

// wholeList returns a copy of a list and all that is behind it.
func wholeList(l reflect.Value) reflect.Value {
	return copyOfList(l.Slice(0, l.Cap()), 0)
}

// deepCopy returns a value that shares no memory with x.
func deepCopy[T any](x T) T {
	return remadeAs(x, exactList)
}

// withRoom returns a deep copy in which each list has elements behind it that nobody may touch.
func withRoom[T any](x T) T {
	return remadeAs(x, roomyList)
}

// mark writes something other than zero into all numbers of a value that are not in a list.
func mark(v reflect.Value) {
	switch v.Kind() {
	case reflect.Struct:
		for i := range v.NumField() {
			mark(v.Field(i))
		}
	case reflect.Int64:
		v.SetInt(77)
	case reflect.String:
		v.SetString("behind")
	}
}

// withAllBehind returns a deep copy with each list as long as the memory that it has.
func withAllBehind[T any](x T) T {
	return remadeAs(x, wholeList)
}

// A span is the memory of a list.
type span struct {
	from uintptr
	to   uintptr
}

func spansOf(v reflect.Value) []span {
	var all []span
	switch v.Kind() {
	case reflect.Slice:
		if size := uintptr(v.Cap()) * v.Type().Elem().Size(); size > 0 {
			all = append(all, span{v.Pointer(), v.Pointer() + size})
		}
		for i := range v.Len() {
			all = append(all, spansOf(v.Index(i))...)
		}
	case reflect.Struct:
		for i := range v.NumField() {
			all = append(all, spansOf(v.Field(i))...)
		}
	}
	return all
}

// overlap reports whether two lists in some values share memory.
func overlap(values ...any) bool {
	var all []span
	for _, x := range values {
		all = append(all, spansOf(reflect.ValueOf(x))...)
	}
	slices.SortFunc(all, func(a span, b span) int { return cmp.Compare(a.from, b.from) })
	for i := 1; i < len(all); i++ {
		if all[i].from < all[i-1].to {
			return true
		}
	}
	return false
}

// wantKept performs something with an argument whose lists have room behind them, and checks that this has neither
// changed nor kept any of its memory.
func wantKept[A any, R any](t *testing.T, what string, argument A, do func(x A) R) {
	t.Helper()
	x := withRoom(argument)
	before := withAllBehind(x)
	if overlap(do(x), x) {
		t.Errorf("%s: two lists share memory", what)
	}
	if !reflect.DeepEqual(withAllBehind(x), before) {
		t.Errorf("%s: %+v changed to %+v", what, argument, x)
	}
}

func TestSharedMemoryIsSeen(t *testing.T) {
	all := []int64{1, 2, 3, 4}
	for _, x := range [][2][]int64{{all[:2], all[2:]}, {all, all[3:]}, {all, all}, {all[:0], all[1:]}} {
		if !overlap(x[0], x[1]) || !overlap([][]int64{x[1], x[0]}) || !overlap(1, "x", x[0], x[1]) {
			t.Errorf("%v: not seen", x)
		}
	}
	for _, x := range [][2][]int64{{all[:2:2], all[2:]}, {nil, all}, {slices.Clone(all), all}, {all[:0:0], all}} {
		if overlap(x[0], x[1]) || overlap([][]int64{x[1], x[0]}) {
			t.Errorf("%v: seen, but not shared", x)
		}
	}
	type pair struct {
		A []int64
		B [][]int64
	}
	x := pair{A: []int64{5}, B: [][]int64{{6, 7}}}
	n := withRoom(x)
	all = append(withAllBehind(n).A, withAllBehind(n).B[0]...)
	if overlap(n, x) || !slices.Equal(all, []int64{5, 77, 77, 77, 6, 7, 77, 77, 77}) {
		t.Errorf("%v", all)
	}
	if n := deepCopy(x); overlap(n, x) || !reflect.DeepEqual(n, x) {
		t.Errorf("%v", n)
	}
}
