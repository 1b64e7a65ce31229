package tests

import (
	"slices"
	"testing"

	"loop.example/g00609/impl"
)

// An exchange is a model of an engine: a market for each symbol, and the set of the blocked accounts.
type exchange struct {
	markets [4]*market
	blocked map[int64]bool
}

func exchangeOf(e impl.Engine) *exchange {
	x := &exchange{blocked: map[int64]bool{}}
	for sym, b := range e.Books {
		x.markets[sym] = marketOf(b)
	}
	for _, acct := range e.Blocked {
		x.blocked[acct] = true
	}
	return x
}

func (x *exchange) engine() impl.Engine {
	e := impl.Engine{}
	for _, m := range x.markets {
		e.Books = append(e.Books, m.book())
	}
	for acct := range int64(101) {
		if x.blocked[acct] {
			e.Blocked = append(e.Blocked, acct)
		}
	}
	return e
}

// step executes a command and returns its records.
func (x *exchange) step(c impl.Cmd) []impl.Rec {
	switch {
	case !validCmd(c):
		return []impl.Rec{refused(c, impl.RcForm)}
	case c.Kind == impl.CkFree:
		delete(x.blocked, c.Acct)
		return []impl.Rec{done(c, 0)}
	case c.Kind == impl.CkMass || c.Kind == impl.CkBlock:
		if c.Kind == impl.CkBlock {
			x.blocked[c.Acct] = true
		}
		recs := x.cancelAll(c.Acct)
		return append(recs, done(c, len(recs)))
	case x.blocked[c.Acct] && c.Kind != impl.CkCancel:
		return withSym([]impl.Rec{refused(c, impl.RcBlocked)}, c.Sym)
	}
	return x.markets[c.Sym].exec(c)
}

func (x *exchange) cancelAll(acct int64) []impl.Rec {
	var recs []impl.Rec
	for sym, m := range x.markets {
		b := m.book()
		for _, o := range append(slices.Clone(b.Bids), b.Asks...) {
			if o.Acct == acct {
				recs = append(recs, withSym([]impl.Rec{gone(o, o.Qty)}, int64(sym))...)
				m.remove(o.Id)
			}
		}
	}
	return recs
}

// fold executes at most 200 commands and returns their records with stamps.
func (x *exchange) fold(l []impl.Cmd, stamp int64) []impl.Rec {
	var tape []impl.Rec
	for i, c := range l {
		if i < 200 {
			tape = append(tape, withStamp(x.step(c), stamp+int64(i))...)
		}
	}
	return tape
}

func withStamp(l []impl.Rec, stamp int64) []impl.Rec {
	l = slices.Clone(l)
	for i := range l {
		l[i].Stamp = stamp
	}
	return l
}

func done(c impl.Cmd, preceding int) impl.Rec {
	return impl.Rec{Kind: impl.RkDone, Acct: c.Acct, Other: c.Kind, Qty: int64(preceding)}
}

// engineOf returns an engine with these books, behind which the others are empty.
func engineOf(books ...impl.Book) impl.Engine {
	e := impl.Engine{Books: make([]impl.Book, 4)}
	copy(e.Books, books)
	return e
}

func withBlocked(e impl.Engine, accts ...int64) impl.Engine {
	return impl.Engine{Books: e.Books, Blocked: accts}
}

func withBook(e impl.Engine, sym int64, b impl.Book) impl.Engine {
	books := slices.Clone(e.Books)
	books[sym] = b
	return impl.Engine{Books: books, Blocked: e.Blocked}
}

func sameEngine(a impl.Engine, b impl.Engine) bool {
	return slices.EqualFunc(a.Books, b.Books, sameBook) && slices.Equal(a.Blocked, b.Blocked)
}

func copyEngine(e impl.Engine) impl.Engine {
	n := impl.Engine{Blocked: slices.Clone(e.Blocked)}
	for _, b := range e.Books {
		n.Books = append(n.Books, copyBook(b))
	}
	return n
}

func isEmptyEngine(e impl.Engine) bool {
	return len(e.Books) == 0 && len(e.Blocked) == 0
}

func inBook(sym int64, c impl.Cmd) impl.Cmd {
	c.Sym = sym
	return c
}

// wide is a command on all books.
func wide(kind int64, acct int64) impl.Cmd {
	return impl.Cmd{Kind: kind, Acct: acct}
}

// wantEngineApart writes a number of its own into all of each list of an engine, and the memory behind it. If two lists
// shared memory, one of them would not keep its number.
func wantEngineApart(t *testing.T, what string, n impl.Engine) {
	t.Helper()
	var lists [][]impl.Order
	for _, b := range n.Books {
		lists = append(lists, b.Bids, b.Asks)
	}
	for i, l := range lists {
		for j := range l[:cap(l)] {
			l[:cap(l)][j] = impl.Order{Id: int64(i)}
		}
	}
	for i, l := range lists {
		for _, o := range l[:cap(l)] {
			if o.Id != int64(i) {
				t.Errorf("%s: lists of the engine share memory", what)
				return
			}
		}
	}
	clear(n.Books[:cap(n.Books)])
	clear(n.Blocked[:cap(n.Blocked)])
}

// wantEngineUntouched performs something with an engine that has room behind its lists, overwrites the engine that
// results, and looks at the argument afterwards.
func wantEngineUntouched(t *testing.T, what string, e impl.Engine, do func(e impl.Engine) impl.Engine) {
	t.Helper()
	behind := order(700, 100)
	x := impl.Engine{Blocked: roomy(e.Blocked, 77)}
	for _, b := range e.Books {
		x.Books = append(x.Books, impl.Book{Bids: roomy(b.Bids, behind), Asks: roomy(b.Asks, behind)})
	}
	x.Books = roomy(x.Books, impl.Book{Bids: []impl.Order{behind}})
	wantEngineApart(t, what, do(x))
	if !sameEngine(x, e) {
		t.Errorf("%s: %v changed to %v", what, e, x)
	}
	if !slices.Equal(x.Blocked[len(x.Blocked):cap(x.Blocked)], []int64{77, 77, 77}) {
		t.Errorf("%s: changed behind the blocked accounts", what)
	}
	for _, b := range x.Books[len(x.Books):cap(x.Books)] {
		if !sameBook(b, impl.Book{Bids: []impl.Order{behind}}) {
			t.Errorf("%s: changed behind the books", what)
		}
	}
	for _, b := range x.Books {
		for _, l := range [][]impl.Order{b.Bids, b.Asks} {
			if !slices.Equal(l[len(l):cap(l)], []impl.Order{behind, behind, behind}) {
				t.Errorf("%s: changed behind a list of orders", what)
			}
		}
	}
}

// randomWide returns a command of any kind, on each of the books, and now and then an invalid one.
func randomWide(d *dice, spread int64, accts int64) impl.Cmd {
	c := randomCmd(d, spread)
	if validCmd(c) {
		c.Acct = 1 + d.roll(accts)
	}
	switch d.roll(30) {
	case 0:
		return wide(impl.CkMass, c.Acct)
	case 1:
		return wide(impl.CkBlock, c.Acct)
	case 2, 3:
		return wide(impl.CkFree, c.Acct)
	}
	return c
}

func randomCmds(d *dice, n int64, accts int64) []impl.Cmd {
	var l []impl.Cmd
	spread := d.roll(4)
	for range n {
		l = append(l, randomWide(d, spread, accts))
	}
	return l
}

// randomEngine returns a valid engine of accounts 1..accts, of which some are blocked.
func randomEngine(d *dice, accts int64, most int64) impl.Engine {
	x := exchangeOf(engineOf(randomBook(d, accts, most), randomBook(d, accts, most), randomBook(d, accts, most), randomBook(d, accts, most)))
	for range d.roll(3) {
		x.step(wide(impl.CkBlock, 1+d.roll(accts)))
	}
	return x.engine()
}
