package tests

import (
	"math"
	"slices"
	"testing"

	"loop.example/g00609/impl"
)

func upTo(n int64) []int64 {
	var l []int64
	for i := range n {
		l = append(l, i+1)
	}
	return l
}

// fullEngine has 160 orders, all of them of the accounts 21 to 60.
func fullEngine() impl.Engine {
	full := impl.Book{Bids: run(20, 20, 100, -1), Asks: run(40, 20, 101, 1)}
	return engineOf(full, full, full, full)
}

// tradeEngine has the book of the examples of chapter 3 as book 1 and, with other numbers, as book 3.
func tradeEngine() impl.Engine {
	other := matchBook()
	for _, l := range [][]impl.Order{other.Bids, other.Asks} {
		for i := range l {
			l[i].Id += 10
		}
	}
	return engineOf(impl.Book{}, matchBook(), impl.Book{}, other)
}

func validEngines() map[string]impl.Engine {
	l := map[string]impl.Engine{
		"empty":                              engineOf(),
		"empty lists":                        {Books: make([]impl.Book, 4), Blocked: []int64{}},
		"full":                               fullEngine(),
		"the same numbers in several books":  engineOf(matchBook(), matchBook(), matchBook(), matchBook()),
		"the first account is blocked":       withBlocked(engineOf(), 1),
		"the last account is blocked":        withBlocked(engineOf(), 100),
		"two accounts are blocked":           withBlocked(engineOf(), 1, 2),
		"the extreme accounts are blocked":   withBlocked(engineOf(), 1, 100),
		"all accounts are blocked":           withBlocked(engineOf(), upTo(100)...),
		"all accounts but one are blocked":   withBlocked(engineOf(impl.Book{Bids: []impl.Order{by(100, 1, 2, 3)}}), upTo(99)...),
		"accounts without orders":            withBlocked(tradeEngine(), 4, 5, 99),
		"accounts around those with orders":  withBlocked(fullEngine(), 1, 20, 61, 100),
		"a book whose price another exceeds": engineOf(impl.Book{Bids: run(1, 1, 100, 0)}, impl.Book{Asks: run(1, 1, 50, 0)}),
	}
	for name, b := range validBooks() {
		for sym := range int64(4) {
			l["book "+string(rune('0'+sym))+": "+name] = withBook(engineOf(), sym, b)
		}
	}
	return l
}

func invalidEngines() map[string]impl.Engine {
	l := map[string]impl.Engine{
		"zero":                     {},
		"only blocked accounts":    {Blocked: []int64{1}},
		"one book":                 {Books: make([]impl.Book, 1)},
		"three books":              {Books: make([]impl.Book, 3)},
		"five books":               {Books: make([]impl.Book, 5)},
		"eight books":              {Books: make([]impl.Book, 8)},
		"260 books":                {Books: make([]impl.Book, 260)},
		"three books with orders":  {Books: tradeEngine().Books[1:]},
		"five books with orders":   {Books: append(tradeEngine().Books, impl.Book{})},
		"falling accounts":         withBlocked(engineOf(), 2, 1),
		"falling accounts at last": withBlocked(engineOf(), 1, 5, 9, 8),
		"falling extreme accounts": withBlocked(engineOf(), 100, 1),
		"an account twice":         withBlocked(engineOf(), 7, 7),
		"an account twice, first":  withBlocked(engineOf(), 1, 1, 2),
		"an account twice, last":   withBlocked(engineOf(), 98, 100, 100),
		"an account twice, apart":  withBlocked(engineOf(), 3, 4, 3),
		"101 accounts":             withBlocked(engineOf(), upTo(101)...),
		"101 accounts from 0 on":   withBlocked(engineOf(), append([]int64{0}, upTo(100)...)...),
		"101 accounts, one twice":  withBlocked(engineOf(), append(upTo(100), 100)...),
	}
	for i, acct := range outside(1, 100) {
		name := "account " + string(rune('A'+i))
		l[name] = withBlocked(engineOf(), acct)
		l[name+" first"] = withBlocked(engineOf(), acct, 50)
		l[name+" last"] = withBlocked(engineOf(), 50, acct)
	}
	for name, b := range invalidBooks() {
		for sym := range int64(4) {
			l["book "+string(rune('0'+sym))+": "+name] = withBook(tradeEngine(), sym, b)
		}
	}
	for sym := range int64(4) {
		for i, o := range slices.Concat(fullEngine().Books[sym].Bids, fullEngine().Books[sym].Asks) {
			e := withBook(engineOf(), sym, fullEngine().Books[sym])
			l["blocked, with order "+string(rune('a'+i))+" in book "+string(rune('0'+sym))] = withBlocked(e, o.Acct)
			l["blocked with others, with order "+string(rune('a'+i))+" in book "+string(rune('0'+sym))] = withBlocked(e, 1, o.Acct, 100)
		}
	}
	return l
}

func TestEngineNew(t *testing.T) {
	if e := impl.EngineNew(); !sameEngine(e, engineOf()) || !impl.EngineOk(e) {
		t.Errorf("%v", e)
	}
	a, b := impl.EngineNew(), impl.EngineNew()
	a.Books[2] = matchBook()
	if !sameEngine(b, engineOf()) || !sameEngine(impl.EngineNew(), engineOf()) {
		t.Error("the new engines share their books")
	}
}

func TestEngineOk(t *testing.T) {
	for name, e := range validEngines() {
		if !impl.EngineOk(e) {
			t.Errorf("%s: not valid", name)
		}
	}
	for name, e := range invalidEngines() {
		if impl.EngineOk(e) {
			t.Errorf("%s: valid", name)
		}
	}
}

func TestEngineOkOfEachBlockedAccount(t *testing.T) {
	for acct := int64(1); acct <= 100; acct++ {
		if !impl.EngineOk(withBlocked(engineOf(), acct)) {
			t.Errorf("account %d cannot be blocked", acct)
		}
		for sym := range int64(4) {
			bid := withBook(engineOf(), sym, impl.Book{Bids: []impl.Order{by(acct, 1, 2, 3)}})
			ask := withBook(engineOf(), sym, impl.Book{Asks: []impl.Order{by(acct, 1, 2, 3)}})
			if impl.EngineOk(withBlocked(bid, acct)) || impl.EngineOk(withBlocked(ask, acct)) {
				t.Errorf("account %d is blocked and has an order in book %d", acct, sym)
			}
			if others := slices.DeleteFunc(upTo(100), func(n int64) bool { return n == acct }); !impl.EngineOk(withBlocked(bid, others...)) {
				t.Errorf("all accounts but %d cannot be blocked", acct)
			}
		}
	}
}

// wantStep checks what a command does to an engine.
func wantStep(t *testing.T, what string, e impl.Engine, c impl.Cmd, want impl.Engine, recs ...impl.Rec) {
	t.Helper()
	n, l := impl.Step(e, c)
	if !sameEngine(n, want) || !slices.Equal(l, recs) {
		t.Errorf("%s: %+v on %v\nyields %v %+v,\nnot %v %+v", what, c, e, n, l, want, recs)
	}
	if !impl.EngineOk(n) {
		t.Errorf("%s: %+v on %v: the engine %v is not valid", what, c, e, n)
	}
}

// oneOfEachKind returns a valid command of each kind, and two invalid ones.
func oneOfEachKind(acct int64, id int64, sym int64) []impl.Cmd {
	l := []impl.Cmd{{}, {Kind: impl.CkMass, Acct: acct, Sym: 1}}
	for kind := int64(impl.CkLimit); kind <= impl.CkFree; kind++ {
		c := cmdOfKind(kind, func(f field[impl.Cmd]) int64 { return f.low })
		c.Acct = acct
		if uses(kind, "Id") {
			c.Id, c.Sym = id, sym
		}
		l = append(l, c)
	}
	return l
}

func TestInvalidEngines(t *testing.T) {
	for name, e := range invalidEngines() {
		for _, c := range oneOfEachKind(3, 900, 1) {
			if n, l := impl.Step(e, c); !isEmptyEngine(n) || len(l) != 0 {
				t.Errorf("%s: Step of %+v yields %v %v", name, c, n, l)
			}
			if n, l := impl.FoldFrom(e, []impl.Cmd{c}, 1); !isEmptyEngine(n) || len(l) != 0 {
				t.Errorf("%s: FoldFrom of %+v yields %v %v", name, c, n, l)
			}
		}
		if n, l := impl.FoldFrom(e, nil, 7); !isEmptyEngine(n) || len(l) != 0 {
			t.Errorf("%s: FoldFrom of no commands yields %v %v", name, n, l)
		}
	}
}

func TestStepOnTheBookOfTheSymbol(t *testing.T) {
	for sym := range int64(4) {
		e := engineOf(impl.Book{Bids: run(60, 3, 50, -1)}, levelBook(), impl.Book{}, fullBids())
		e = withBook(e, sym, matchBook())
		o := by(4, 9, 101, 6)
		for _, c := range []impl.Cmd{
			buy(impl.CkLimit, o, impl.SpNew), buy(impl.CkLimit, by(4, 9, 102, 20), impl.SpNew), buy(impl.CkIoc, o, impl.SpOld),
			buy(impl.CkMarket, by(4, 9, 0, 99), impl.SpBoth), buy(impl.CkFok, o, impl.SpNew), buy(impl.CkFok, left(o, 9), impl.SpNew),
			buy(impl.CkPost, o, impl.SpNew), sell(impl.CkPost, o, impl.SpNew), buy(impl.CkLimit, by(1, 9, 101, 6), impl.SpBoth),
			cancel(1, 1), cancel(2, 1), cancel(1, 60), replace(by(3, 4, 99, 1), impl.SpNew), replace(by(3, 4, 102, 9), impl.SpNew), replace(o, impl.SpNew),
			buy(impl.CkLimit, by(1, 1, 1, 1), impl.SpNew), buy(impl.CkLimit, by(60, 60, 90, 1), impl.SpNew), buy(impl.CkLimit, by(60, 11, 90, 1), impl.SpNew),
		} {
			c.Sym = sym
			m := marketOf(matchBook())
			recs := m.exec(c)
			wantStep(t, "on one book", e, c, withBook(e, sym, m.book()), recs...)
			b, recs := impl.Exec(matchBook(), c)
			wantStep(t, "as Exec", e, c, withBook(e, sym, b), recs...)
			wantStep(t, "with others blocked", withBlocked(e, 80, 90), c, withBlocked(withBook(e, sym, b), 80, 90), recs...)
		}
	}
}

func TestStepRefusesInvalidCommands(t *testing.T) {
	engines := []impl.Engine{engineOf(), tradeEngine(), withBlocked(engineOf(), upTo(100)...), withBlocked(tradeEngine(), 4, 5)}
	want := func(c impl.Cmd) {
		for _, e := range engines {
			wantStep(t, "not valid", e, c, e, refused(c, impl.RcForm))
		}
	}
	want(impl.Cmd{})
	want(impl.Cmd{Acct: 3, Id: 4, Sym: 1})
	for kind := int64(impl.CkLimit); kind <= impl.CkFree; kind++ {
		good := cmdOfKind(kind, func(f field[impl.Cmd]) int64 { return min(f.low+1, f.high) })
		for _, f := range cmdFields() {
			for _, n := range append(outside(f.low, f.high), 0, f.low, f.high) {
				c := good
				*f.at(&c) = n
				if !validCmd(c) {
					want(c)
				}
			}
		}
		for _, bad := range outside(1, 10) {
			c := good
			c.Kind = bad
			want(c)
		}
	}
	for _, kind := range []int64{impl.CkMass, impl.CkBlock, impl.CkFree} {
		want(impl.Cmd{Kind: kind, Sym: 1, Acct: 3})
		want(impl.Cmd{Kind: kind, Acct: 3, Id: 4})
	}
}

func TestBlockedAccountsEnterNothing(t *testing.T) {
	for _, blocked := range [][]int64{{4}, {1}, {100}, {4, 60}, {40, 41, 42}, upTo(100)} {
		e := withBlocked(engineOf(), blocked...)
		for _, acct := range blocked {
			for sym := range int64(4) {
				for _, c := range oneOfEachKind(acct, 9, sym)[2:] {
					switch c.Kind {
					case impl.CkMass, impl.CkBlock:
						wantStep(t, "blocked already", e, c, e, done(c, 0))
					case impl.CkFree:
						others := slices.DeleteFunc(slices.Clone(blocked), func(n int64) bool { return n == acct })
						wantStep(t, "freed", e, c, withBlocked(e, others...), done(c, 0))
					case impl.CkCancel:
						wantStep(t, "nothing to cancel", e, c, e, withSym([]impl.Rec{refused(c, impl.RcNone)}, sym)...)
					default:
						wantStep(t, "blocked", e, c, e, withSym([]impl.Rec{refused(c, impl.RcBlocked)}, sym)...)
					}
				}
			}
		}
	}
}

// A blocked account's commands would be rejected for other reasons too, if it were not blocked.
func TestBlockedIsTheFirstReason(t *testing.T) {
	e := withBlocked(withBook(tradeEngine(), 2, fullBids()), 4, 77)
	refuse := func(c impl.Cmd, code int64) {
		t.Helper()
		wantStep(t, "blocked", e, c, e, withSym([]impl.Rec{refused(c, code)}, c.Sym)...)
	}
	for _, acct := range []int64{4, 77} {
		for kind := int64(impl.CkLimit); kind <= impl.CkPost; kind++ {
			for _, o := range []impl.Order{by(acct, 1, 101, 1), by(acct, 9, 101, 50), by(acct, 9, 50, 1)} {
				if kind == impl.CkMarket {
					o.Price = 0
				}
				refuse(inBook(1, buy(kind, o, impl.SpNew)), impl.RcBlocked)
			}
			o := by(acct, 999, 50, 1)
			if kind == impl.CkMarket {
				o.Price = 0
			}
			refuse(inBook(2, buy(kind, o, impl.SpOld)), impl.RcBlocked)
		}
		for _, id := range []int64{1, 4, 9} {
			refuse(inBook(1, replace(by(acct, id, 101, 1), impl.SpNew)), impl.RcBlocked)
			refuse(inBook(1, cancel(acct, id)), impl.RcNone)
		}
		bad := inBook(1, buy(impl.CkLimit, by(acct, 9, 101, 1), 4))
		wantStep(t, "blocked, and not valid", e, bad, e, refused(bad, impl.RcForm))
	}
	for _, acct := range []int64{3, 5, 76, 78} {
		o := by(acct, 9, 50, 1)
		wantStep(t, "not blocked", e, buy(impl.CkLimit, o, impl.SpNew), withBook(e, 0, impl.Book{Bids: []impl.Order{o}}), ack(o))
	}
}

func TestBlock(t *testing.T) {
	for _, x := range []struct {
		acct    int64
		blocked []int64
		want    []int64
	}{
		{1, nil, []int64{1}}, {100, nil, []int64{100}}, {1, []int64{2}, []int64{1, 2}}, {2, []int64{1}, []int64{1, 2}},
		{5, []int64{4, 6}, []int64{4, 5, 6}}, {3, []int64{4, 6}, []int64{3, 4, 6}}, {7, []int64{4, 6}, []int64{4, 6, 7}},
		{100, upTo(99), upTo(100)}, {1, upTo(100)[1:], upTo(100)}, {50, append(upTo(49), upTo(100)[50:]...), upTo(100)},
		{4, []int64{4}, []int64{4}}, {4, []int64{4, 6}, []int64{4, 6}}, {6, []int64{4, 6}, []int64{4, 6}}, {5, []int64{4, 5, 6}, []int64{4, 5, 6}},
		{1, upTo(100), upTo(100)}, {50, upTo(100), upTo(100)}, {100, upTo(100), upTo(100)},
	} {
		c := wide(impl.CkBlock, x.acct)
		wantStep(t, "block", withBlocked(engineOf(), x.blocked...), c, withBlocked(engineOf(), x.want...), done(c, 0))
	}
}

func TestFree(t *testing.T) {
	for _, x := range []struct {
		acct    int64
		blocked []int64
		want    []int64
	}{
		{4, []int64{4}, nil}, {1, []int64{1, 2}, []int64{2}}, {2, []int64{1, 2}, []int64{1}}, {5, []int64{4, 5, 6}, []int64{4, 6}},
		{100, upTo(100), upTo(99)}, {1, upTo(100), upTo(100)[1:]}, {50, upTo(100), append(upTo(49), upTo(100)[50:]...)},
		{4, nil, nil}, {1, nil, nil}, {100, nil, nil}, {5, []int64{4, 6}, []int64{4, 6}}, {3, []int64{4, 6}, []int64{4, 6}}, {7, []int64{4, 6}, []int64{4, 6}},
	} {
		c := wide(impl.CkFree, x.acct)
		wantStep(t, "free", withBlocked(engineOf(), x.blocked...), c, withBlocked(engineOf(), x.want...), done(c, 0))
	}
	for _, acct := range []int64{1, 3, 4, 100} {
		c := wide(impl.CkFree, acct)
		wantStep(t, "free, with orders", tradeEngine(), c, tradeEngine(), done(c, 0))
		wantStep(t, "free, with orders of others", withBlocked(tradeEngine(), 9), c, withBlocked(tradeEngine(), 9), done(c, 0))
	}
}

// wantWide checks a mass cancellation, and the blocking of the same account.
func wantWide(t *testing.T, what string, e impl.Engine, acct int64, want impl.Engine, recs ...impl.Rec) {
	t.Helper()
	mass, block := wide(impl.CkMass, acct), wide(impl.CkBlock, acct)
	wantStep(t, what, e, mass, want, append(slices.Clone(recs), done(mass, len(recs)))...)
	wantStep(t, what, e, block, withBlocked(want, acct), append(slices.Clone(recs), done(block, len(recs)))...)
}

func goneFrom(sym int64, o impl.Order) impl.Rec {
	r := gone(o, o.Qty)
	r.Sym = sym
	return r
}

func TestMassCancellation(t *testing.T) {
	mine, yours := by(7, 50, 90, 3), by(8, 51, 89, 2)
	dear, mine2 := by(8, 52, 110, 4), by(7, 53, 111, 6)
	both := impl.Book{Bids: []impl.Order{mine, yours}, Asks: []impl.Order{dear, mine2}}
	others := impl.Book{Bids: []impl.Order{yours}, Asks: []impl.Order{dear}}
	for sym := range int64(4) {
		e := withBook(engineOf(others, others, others, others), sym, both)
		wantWide(t, "in one book", e, 7, engineOf(others, others, others, others), goneFrom(sym, mine), goneFrom(sym, mine2))
		wantWide(t, "in no book", e, 9, e)
		wantWide(t, "an ask alone", withBook(engineOf(), sym, impl.Book{Asks: []impl.Order{mine2}}), 7, engineOf(), goneFrom(sym, mine2))
		wantWide(t, "a bid alone", withBook(engineOf(), sym, impl.Book{Bids: []impl.Order{mine}}), 7, engineOf(), goneFrom(sym, mine))
	}
	wantWide(t, "in several books", engineOf(both, others, impl.Book{Asks: []impl.Order{mine2}}, both), 7, engineOf(others, others, impl.Book{}, others),
		goneFrom(0, mine), goneFrom(0, mine2), goneFrom(2, mine2), goneFrom(3, mine), goneFrom(3, mine2))
	wantWide(t, "in all books", engineOf(both, both, both, both), 7, engineOf(others, others, others, others),
		goneFrom(0, mine), goneFrom(0, mine2), goneFrom(1, mine), goneFrom(1, mine2), goneFrom(2, mine), goneFrom(2, mine2), goneFrom(3, mine), goneFrom(3, mine2))
	for _, acct := range []int64{1, 7, 100} {
		wantWide(t, "an empty engine", engineOf(), acct, engineOf())
	}
	e := withBlocked(engineOf(both, others), 1, 9, 100)
	c := wide(impl.CkMass, 7)
	wantStep(t, "with others blocked", e, c, withBlocked(engineOf(others, others), 1, 9, 100), goneFrom(0, mine), goneFrom(0, mine2), done(c, 2))
	c = wide(impl.CkBlock, 7)
	wantStep(t, "with others blocked", e, c, withBlocked(engineOf(others, others), 1, 7, 9, 100), goneFrom(0, mine), goneFrom(0, mine2), done(c, 2))
}

func TestMassCancellationOf160Orders(t *testing.T) {
	for _, acct := range []int64{1, 100} {
		e := fullEngine()
		var recs []impl.Rec
		for sym, b := range e.Books {
			for _, l := range [][]impl.Order{b.Bids, b.Asks} {
				for i := range l {
					l[i].Acct = acct
				}
			}
			e.Books[sym] = copyBook(b)
			for _, o := range slices.Concat(e.Books[sym].Bids, e.Books[sym].Asks) {
				recs = append(recs, goneFrom(int64(sym), o))
			}
		}
		if len(recs) != 160 {
			t.Fatal(len(recs))
		}
		wantWide(t, "all orders", e, acct, engineOf(), recs...)
		wantWide(t, "none of the orders", e, 50, e)
	}
}

func TestABlockedAccountAndAFreedOne(t *testing.T) {
	o := by(3, 9, 100, 2)
	again := inBook(1, buy(impl.CkLimit, o, impl.SpNew))
	e, _ := impl.Step(tradeEngine(), wide(impl.CkBlock, 3))
	for sym, b := range e.Books {
		for _, o := range slices.Concat(b.Bids, b.Asks) {
			if o.Acct == 3 {
				t.Errorf("book %d still has %v", sym, o)
			}
		}
	}
	wantStep(t, "blocked", e, again, e, withSym([]impl.Rec{refused(again, impl.RcBlocked)}, 1)...)
	e, _ = impl.Step(e, wide(impl.CkFree, 3))
	want := impl.Book{Bids: []impl.Order{o}, Asks: []impl.Order{ask1, ask2}}
	wantStep(t, "freed", e, again, withBook(e, 1, want), withSym([]impl.Rec{ack(o)}, 1)...)
}

func wantFold(t *testing.T, what string, e impl.Engine, l []impl.Cmd, stamp int64) (impl.Engine, []impl.Rec) {
	t.Helper()
	x := exchangeOf(e)
	recs := x.fold(l, stamp)
	n, tape := impl.FoldFrom(e, l, stamp)
	if !sameEngine(n, x.engine()) || !slices.Equal(tape, recs) {
		t.Errorf("%s: %d commands from stamp %d on yield\n%v %+v,\nnot %v %+v", what, len(l), stamp, n, tape, x.engine(), recs)
	}
	return n, tape
}

func TestFoldExample(t *testing.T) {
	o, p, q := by(1, 1, 100, 5), by(1, 1, 100, 5), by(2, 2, 100, 3)
	l := []impl.Cmd{buy(impl.CkLimit, o, impl.SpNew), inBook(1, sell(impl.CkLimit, p, impl.SpNew)), sell(impl.CkLimit, q, impl.SpNew), {}, wide(impl.CkBlock, 1)}
	want := slices.Concat(
		withStamp([]impl.Rec{ack(o)}, 1),
		withStamp(withSym([]impl.Rec{ack(p)}, 1), 2),
		withStamp([]impl.Rec{ack(q), fill(q, o, 3)}, 3),
		withStamp([]impl.Rec{refused(impl.Cmd{}, impl.RcForm)}, 4),
		withStamp([]impl.Rec{gone(o, 2), goneFrom(1, p), done(wide(impl.CkBlock, 1), 2)}, 5),
	)
	e, tape := impl.Fold(l)
	if !slices.Equal(tape, want) || !sameEngine(e, withBlocked(engineOf(), 1)) {
		t.Errorf("%v %+v", e, tape)
	}
}

func TestFoldOfNoCommands(t *testing.T) {
	for _, l := range [][]impl.Cmd{nil, {}} {
		if e, tape := impl.Fold(l); !sameEngine(e, engineOf()) || len(tape) != 0 {
			t.Errorf("%v %v", e, tape)
		}
		for name, e := range validEngines() {
			if n, tape := impl.FoldFrom(e, l, 1); !sameEngine(n, e) || len(tape) != 0 {
				t.Errorf("%s: %v %v", name, n, tape)
			}
		}
	}
}

// differentCmds returns n commands, of which each can be told from the others by its records.
func differentCmds(n int64) []impl.Cmd {
	var l []impl.Cmd
	for i := range n {
		l = append(l, inBook(i%4, buy(impl.CkIoc, by(1+i%100, 1000+i, 5, 1), impl.SpNew)))
	}
	return l
}

func TestFoldOfAtMost200Commands(t *testing.T) {
	for _, n := range []int64{1, 2, 3, 198, 199, 200, 201, 202, 400, 1000} {
		l := differentCmds(n)
		l = append(l, buy(impl.CkLimit, by(1, 1, 5, 1), impl.SpNew))
		e, tape := impl.Fold(l)
		most := min(n, 199)
		if len(tape) != int(min(2*n+1, 400)) || tape[2*most-1].Id != 999+most || tape[2*most-1].Stamp != most {
			t.Errorf("%d commands: %d records, %v", n, len(tape), tape[2*most-1])
		}
		if rested := len(e.Books[0].Bids); n <= 199 != (rested == 1) {
			t.Errorf("%d commands before the last one, and %d orders rest", n, rested)
		}
		wantFold(t, "many commands", engineOf(), l, 1)
		wantFold(t, "many commands", tradeEngine(), l, 77)
	}
}

func TestEveryCommandHasItsStamp(t *testing.T) {
	l := differentCmds(197)
	l = slices.Insert(l, 7, impl.Cmd{}, wide(impl.CkMass, 9), cancel(1, 999))
	for _, stamp := range []int64{1, 2, 255, 256, 999998000, 999998999, 999999000} {
		_, tape := wantFold(t, "stamps", engineOf(), l, stamp)
		at := stamp - 1
		for i, r := range tape {
			if r.Stamp != at && r.Stamp != at+1 {
				t.Errorf("the stamp %d follows %d", r.Stamp, at)
			}
			if i == 0 && r.Stamp != stamp || !impl.RecOk(r) {
				t.Errorf("record %d from stamp %d on: %v", i, stamp, r)
			}
			at = r.Stamp
		}
		if at != stamp+199 {
			t.Errorf("the last stamp is %d, the first one %d", at, stamp)
		}
	}
}

func TestFoldFromRejectsStamps(t *testing.T) {
	for _, stamp := range append(outside(1, 999999000), 0, -1, 999999001, 1000000000, math.MaxInt64-199) {
		for _, l := range [][]impl.Cmd{nil, {{}}, differentCmds(3)} {
			for _, e := range []impl.Engine{engineOf(), tradeEngine(), withBlocked(engineOf(), 1)} {
				if n, tape := impl.FoldFrom(e, l, stamp); !isEmptyEngine(n) || len(tape) != 0 {
					t.Errorf("stamp %d: %v %v", stamp, n, tape)
				}
			}
		}
	}
}

func TestFoldBeginsWithANewEngineAndStamp1(t *testing.T) {
	d := dice(51)
	for range 30 {
		l := randomCmds(&d, d.roll(220), 5)
		e, tape := impl.Fold(l)
		x := exchangeOf(engineOf())
		if recs := x.fold(l, 1); !slices.Equal(tape, recs) || !sameEngine(e, x.engine()) {
			t.Errorf("%d commands: %v %v", len(l), e, tape)
		}
	}
}

// A fold in two parts yields what a fold of all commands yields.
func TestFoldFromContinues(t *testing.T) {
	d := dice(52)
	for range 40 {
		l := randomCmds(&d, 200, 4)
		at := d.roll(201)
		e, tape := impl.Fold(l)
		a, one := impl.Fold(l[:at])
		b, two := impl.FoldFrom(a, l[at:], at+1)
		if !sameEngine(b, e) || !slices.Equal(append(one, two...), tape) {
			t.Errorf("cut at %d: %v", at, b)
		}
	}
}

// wantPromise5 checks an engine and the records since a stamp without a model.
func wantPromise5(t *testing.T, e impl.Engine, recs []impl.Rec, c impl.Cmd, wasBlocked bool) {
	t.Helper()
	for sym, b := range e.Books {
		bid, someBid := impl.Best(b, impl.SdBuy)
		ask, someAsk := impl.Best(b, impl.SdSell)
		if someBid && someAsk && bid >= ask {
			t.Errorf("%+v: book %d is crossed: %v", c, sym, b)
		}
		for _, o := range slices.Concat(b.Bids, b.Asks) {
			if slices.Contains(e.Blocked, o.Acct) {
				t.Errorf("%+v: blocked account %d has %v in book %d", c, o.Acct, o, sym)
			}
		}
	}
	if len(recs) == 0 {
		t.Errorf("%+v has no records", c)
	}
	for _, r := range recs {
		if wasBlocked && (r.Kind == impl.RkAck || r.Kind == impl.RkFill) {
			t.Errorf("%+v of a blocked account yields %v", c, r)
		}
	}
}

func TestStepsRandomly(t *testing.T) {
	d := dice(53)
	seen := map[int64]int{}
	for range 40 {
		e := engineOf()
		spread := d.roll(4)
		for range 200 {
			c := randomWide(&d, spread, 6)
			x := exchangeOf(e)
			recs := x.step(c)
			wantStep(t, "random", e, c, x.engine(), recs...)
			n, l := impl.Step(e, c)
			wantPromise5(t, n, l, c, validCmd(c) && slices.Contains(e.Blocked, c.Acct))
			e = n
			for _, r := range l {
				if r.Kind == impl.RkReject {
					seen[r.Other]++
				}
			}
		}
	}
	for _, code := range []int64{impl.RcForm, impl.RcBlocked, impl.RcTwice, impl.RcNone, impl.RcCross, impl.RcFill} {
		if seen[code] == 0 {
			t.Errorf("no command was rejected with %d", code)
		}
	}
}

func TestEnginesAreNotChanged(t *testing.T) {
	d := dice(54)
	for range 400 {
		e := randomEngine(&d, 6, 6)
		c := randomWide(&d, 0, 6)
		wantEngineUntouched(t, "Step", e, func(e impl.Engine) impl.Engine {
			n, recs := impl.Step(e, c)
			clear(recs[:cap(recs)])
			return n
		})
		l := randomCmds(&d, 5, 6)
		wantEngineUntouched(t, "FoldFrom", e, func(e impl.Engine) impl.Engine {
			x := roomy(l, impl.Cmd{Kind: 99})
			n, recs := impl.FoldFrom(e, x, 1)
			clear(recs[:cap(recs)])
			if !slices.Equal(x, l) || !slices.Equal(x[5:8], []impl.Cmd{{Kind: 99}, {Kind: 99}, {Kind: 99}}) {
				t.Errorf("the commands %v changed to %v", l, x[:8])
			}
			return n
		})
	}
	for name, e := range validEngines() {
		for _, c := range oneOfEachKind(3, 900, 2) {
			wantEngineUntouched(t, name, e, func(e impl.Engine) impl.Engine {
				n, _ := impl.Step(e, c)
				return n
			})
		}
	}
	for name, e := range invalidEngines() {
		wantEngineUntouched(t, name, e, func(e impl.Engine) impl.Engine {
			impl.EngineOk(e)
			impl.FoldFrom(e, differentCmds(2), 1)
			n, _ := impl.Step(e, wide(impl.CkBlock, 3))
			return n
		})
	}
}

func TestNewEnginesOfFoldsShareNothing(t *testing.T) {
	d := dice(55)
	l := randomCmds(&d, 200, 9)
	a, tape := impl.Fold(l)
	b, again := impl.Fold(slices.Clone(l))
	if !sameEngine(a, b) || !slices.Equal(tape, again) {
		t.Error("equal commands yield different results")
	}
	before := copyEngine(b)
	wantEngineApart(t, "Fold", a)
	clear(tape)
	if !sameEngine(b, before) || again[0].Stamp != 1 {
		t.Error("two results share memory")
	}
	wantEngineApart(t, "EngineNew", impl.EngineNew())
}

func TestEqualArgumentsYieldEqualSteps(t *testing.T) {
	d := dice(56)
	for range 200 {
		e, c := randomEngine(&d, 5, 5), randomWide(&d, 0, 5)
		n, l := impl.Step(e, c)
		impl.Step(randomEngine(&d, 5, 5), randomWide(&d, 0, 5))
		if again, recs := impl.Step(copyEngine(e), c); !sameEngine(n, again) || !slices.Equal(l, recs) {
			t.Errorf("%+v on %v: first %v %v, then %v %v", c, e, n, l, again, recs)
		}
	}
}
