package tests

import (
	"math"
	"slices"
	"testing"

	"loop.example/g00609/impl"
)

// A field of a struct T, as the document describes it: how to get at it, and the range of its values.
type field[T any] struct {
	name string
	at   func(x *T) *int64
	low  int64
	high int64
}

// outside returns values that the range low..high does not contain: those next to it, the extreme ones, and those
// that would be inside if all but their last bytes were dropped.
func outside(low int64, high int64) []int64 {
	l := []int64{low - 1, high + 1, math.MinInt64, math.MinInt64 + low, math.MaxInt64, -low - 1, -high - 1}
	for _, shift := range []int{8, 16, 24, 32, 56} {
		l = append(l, low+1<<shift, high+1<<shift, low-1<<shift, high-1<<shift)
	}
	return slices.DeleteFunc(l, func(n int64) bool { return low <= n && n <= high })
}

// dice is a deterministic sequence of numbers.
type dice uint64

func (d *dice) roll(n int64) int64 {
	*d = *d*6364136223846793005 + 1442695040888963407
	return int64(uint64(*d)>>33) % n
}

func oneOf[T any](d *dice, l []T) T {
	return l[d.roll(int64(len(l)))]
}

// roomy returns a list with the same elements, and further ones behind it that nobody may touch.
func roomy[T any](l []T, behind T) []T {
	full := make([]T, 0, len(l)+3)
	full = append(full, l...)
	return append(full, behind, behind, behind)[:len(l)]
}

func sameBook(a impl.Book, b impl.Book) bool {
	return slices.Equal(a.Bids, b.Bids) && slices.Equal(a.Asks, b.Asks)
}

func copyBook(b impl.Book) impl.Book {
	return impl.Book{Bids: slices.Clone(b.Bids), Asks: slices.Clone(b.Asks)}
}

func ids(l []impl.Order) []int64 {
	var out []int64
	for _, o := range l {
		out = append(out, o.Id)
	}
	return out
}

func wantIds(t *testing.T, what string, l []impl.Order, want ...int64) {
	t.Helper()
	if !slices.Equal(ids(l), want) {
		t.Errorf("%s: orders %v, want %v", what, ids(l), want)
	}
}

// wipe overwrites a list and the memory behind it.
func wipe(l []impl.Order) {
	clear(l[:cap(l)])
}

// wantApart overwrites each list of a result in turn, which may change nothing else.
func wantApart(t *testing.T, what string, n impl.Book, argument impl.Book) {
	t.Helper()
	want, before := copyBook(n), copyBook(argument)
	wipe(n.Bids)
	if !slices.Equal(n.Asks, want.Asks) {
		t.Errorf("%s: the asks changed with the bids", what)
	}
	copy(n.Bids, want.Bids)
	wipe(n.Asks)
	if !slices.Equal(n.Bids, want.Bids) {
		t.Errorf("%s: the bids changed with the asks", what)
	}
	if wipe(n.Bids); !sameBook(argument, before) {
		t.Errorf("%s: the argument changed with the result", what)
	}
}

// wantUntouched performs something with a book that has room behind its lists, and looks at it afterwards.
func wantUntouched(t *testing.T, what string, b impl.Book, do func(b impl.Book) impl.Book) {
	t.Helper()
	behind := order(700, 100)
	x := impl.Book{Bids: roomy(b.Bids, behind), Asks: roomy(b.Asks, behind)}
	wantApart(t, what, do(x), x)
	if !sameBook(x, b) {
		t.Errorf("%s: %v changed to %v", what, b, x)
	}
	for _, l := range [][]impl.Order{x.Bids, x.Asks} {
		if !slices.Equal(l[len(l):cap(l)], []impl.Order{behind, behind, behind}) {
			t.Errorf("%s: changed behind the list", what)
		}
	}
}
