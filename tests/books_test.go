package tests

import (
	"math"
	"slices"
	"testing"

	"loop.example/g00609/impl"
)

func orderFields() []field[impl.Order] {
	return []field[impl.Order]{
		{"Id", func(o *impl.Order) *int64 { return &o.Id }, 1, 1000000000},
		{"Acct", func(o *impl.Order) *int64 { return &o.Acct }, 1, 100},
		{"Price", func(o *impl.Order) *int64 { return &o.Price }, 1, 1000000},
		{"Qty", func(o *impl.Order) *int64 { return &o.Qty }, 1, 1000000},
	}
}

func order(id int64, price int64) impl.Order {
	return impl.Order{Id: id, Acct: 1 + id%100, Price: price, Qty: 1 + id%7}
}

// run returns n orders with consecutive Ids, the first of the given price and each next one by step more.
func run(id int64, n int64, price int64, step int64) []impl.Order {
	var l []impl.Order
	for i := range n {
		l = append(l, order(id+i, price+i*step))
	}
	return l
}

// exampleBook is the book of the examples of chapter 2.
func exampleBook(t *testing.T) impl.Book {
	t.Helper()
	b := impl.Book{}
	for _, x := range []struct{ side, id, qty, price int64 }{
		{1, 1, 5, 100}, {1, 2, 5, 99}, {1, 3, 2, 100}, {2, 4, 5, 102}, {2, 5, 1, 101}, {2, 6, 9, 102},
	} {
		next, ok := impl.Rested(b, x.side, impl.Order{Id: x.id, Acct: 1, Price: x.price, Qty: x.qty})
		if !ok {
			t.Fatalf("order %d does not rest", x.id)
		}
		b = next
	}
	return b
}

func validBooks() map[string]impl.Book {
	return map[string]impl.Book{
		"empty":                   {},
		"empty lists":             {Bids: []impl.Order{}, Asks: []impl.Order{}},
		"a bid":                   {Bids: run(1, 1, 100, 0)},
		"an ask":                  {Asks: run(1, 1, 100, 0)},
		"prices that differ by 1": {Bids: run(1, 1, 100, 0), Asks: run(2, 1, 101, 0)},
		"extreme prices":          {Bids: run(1, 1, 1, 0), Asks: run(2, 1, 1000000, 0)},
		"equal prices":            {Bids: run(1, 5, 100, 0), Asks: run(6, 5, 101, 0)},
		"full sides":              {Bids: run(1, 20, 100, -1), Asks: run(21, 20, 101, 1)},
		"full sides of a price":   {Bids: run(1, 20, 100, 0), Asks: run(21, 20, 101, 0)},
		"full bids":               {Bids: run(1, 20, 100, -1)},
		"full asks":               {Asks: run(1, 20, 100, 1)},
		"falling Ids":             {Bids: []impl.Order{order(9, 5), order(8, 5), order(7, 4)}, Asks: []impl.Order{order(6, 6), order(5, 7)}},
		"one account":             {Bids: []impl.Order{{Id: 1, Acct: 5, Price: 3, Qty: 1}, {Id: 2, Acct: 5, Price: 2, Qty: 1}}, Asks: []impl.Order{{Id: 3, Acct: 5, Price: 4, Qty: 1}}},
	}
}

func invalidBooks() map[string]impl.Book {
	books := map[string]impl.Book{
		"21 bids":                  {Bids: run(1, 21, 100, -1)},
		"21 asks":                  {Asks: run(1, 21, 100, 1)},
		"21 bids of a price":       {Bids: run(1, 21, 100, 0), Asks: run(40, 1, 101, 0)},
		"21 asks of a price":       {Bids: run(40, 1, 99, 0), Asks: run(1, 21, 100, 0)},
		"an Id twice in the bids":  {Bids: []impl.Order{order(1, 9), order(2, 8), order(1, 7)}},
		"an Id twice in the asks":  {Asks: []impl.Order{order(1, 7), order(2, 8), order(1, 9)}},
		"an Id on both sides":      {Bids: []impl.Order{order(3, 9), order(2, 8)}, Asks: []impl.Order{order(4, 10), order(2, 11)}},
		"rising bids":              {Bids: []impl.Order{order(1, 8), order(2, 9)}},
		"falling asks":             {Asks: []impl.Order{order(1, 9), order(2, 8)}},
		"rising bids at the end":   {Bids: []impl.Order{order(1, 9), order(2, 7), order(3, 7), order(4, 8)}},
		"falling asks at the end":  {Asks: []impl.Order{order(1, 7), order(2, 9), order(3, 9), order(4, 8)}},
		"one price on both sides":  {Bids: run(1, 1, 100, 0), Asks: run(2, 1, 100, 0)},
		"crossed":                  {Bids: run(1, 1, 101, 0), Asks: run(2, 1, 100, 0)},
		"crossed by the first bid": {Bids: []impl.Order{order(1, 101), order(2, 90)}, Asks: []impl.Order{order(3, 101), order(4, 110)}},
		"a zero bid":               {Bids: []impl.Order{{}}},
		"a zero ask":               {Asks: []impl.Order{{}}},
		"a zero bid at the end":    {Bids: []impl.Order{order(1, 9), {}}},
	}
	for _, f := range orderFields() {
		for i, n := range []int64{f.low - 1, f.high + 1, -f.high, math.MinInt64, math.MaxInt64} {
			o := impl.Order{Id: 5, Acct: 5, Price: 5, Qty: 5}
			*f.at(&o) = n
			name := f.name + " " + []string{"too low", "too high", "negative", "least", "greatest"}[i]
			books["bid: "+name] = impl.Book{Bids: []impl.Order{o}}
			books["ask: "+name] = impl.Book{Asks: []impl.Order{o}}
		}
	}
	return books
}

func TestBookOkOfValidBooks(t *testing.T) {
	for name, b := range validBooks() {
		if !impl.BookOk(b) {
			t.Errorf("%s: not valid", name)
		}
	}
	for _, f := range orderFields() {
		for _, n := range []int64{f.low, f.high} {
			o := impl.Order{Id: 5, Acct: 5, Price: 5, Qty: 5}
			*f.at(&o) = n
			if !impl.BookOk(impl.Book{Bids: []impl.Order{o}}) || !impl.BookOk(impl.Book{Asks: []impl.Order{o}}) {
				t.Errorf("%s %d: not valid", f.name, n)
			}
		}
	}
}

func TestBookOkOfInvalidBooks(t *testing.T) {
	for name, b := range invalidBooks() {
		if impl.BookOk(b) {
			t.Errorf("%s: valid", name)
		}
	}
	for _, f := range orderFields() {
		for _, n := range outside(f.low, f.high) {
			bad := impl.Order{Id: 5, Acct: 5, Price: 5, Qty: 5}
			*f.at(&bad) = n
			if impl.BookOk(impl.Book{Bids: []impl.Order{bad}}) || impl.BookOk(impl.Book{Asks: []impl.Order{bad}}) {
				t.Errorf("%s %d: valid", f.name, n)
			}
		}
	}
}

func TestOfAnInvalidBookThereIsNothing(t *testing.T) {
	for name, b := range invalidBooks() {
		for _, side := range []int64{impl.SdBuy, impl.SdSell} {
			if l := impl.Side(b, side); len(l) != 0 {
				t.Errorf("%s: Side %v", name, l)
			}
			if p, ok := impl.Best(b, side); ok || p != 0 {
				t.Errorf("%s: Best %d, %v", name, p, ok)
			}
			if n, ok := impl.Rested(b, side, order(999, 95)); ok || !sameBook(n, impl.Book{}) {
				t.Errorf("%s: Rested %v, %v", name, n, ok)
			}
			for _, price := range []int64{0, 1, 100, 1000000} {
				if l := impl.Crossing(b, side, price); len(l) != 0 {
					t.Errorf("%s: Crossing %v", name, l)
				}
			}
		}
		for _, o := range append(slices.Clone(b.Bids), b.Asks...) {
			if s, x, ok := impl.Find(b, o.Id); ok || s != 0 || x != (impl.Order{}) {
				t.Errorf("%s: Find %d, %v, %v", name, s, x, ok)
			}
			if n, ok := impl.Taken(b, o.Id); ok || !sameBook(n, impl.Book{}) {
				t.Errorf("%s: Taken %v, %v", name, n, ok)
			}
		}
	}
}

func TestSideAndBest(t *testing.T) {
	b := exampleBook(t)
	wantIds(t, "Bids", b.Bids, 1, 3, 2)
	wantIds(t, "Asks", b.Asks, 5, 4, 6)
	for name, b := range validBooks() {
		for side, want := range map[int64][]impl.Order{impl.SdBuy: b.Bids, impl.SdSell: b.Asks} {
			if got := impl.Side(b, side); !slices.Equal(got, want) {
				t.Errorf("%s: Side %d is %v, want %v", name, side, got, want)
			}
			p, ok := impl.Best(b, side)
			if ok != (len(want) > 0) || !ok && p != 0 || ok && p != want[0].Price {
				t.Errorf("%s: Best of side %d is %d, %v", name, side, p, ok)
			}
		}
	}
}

func TestInvalidSides(t *testing.T) {
	for name, b := range validBooks() {
		for _, side := range outside(impl.SdBuy, impl.SdSell) {
			if l := impl.Side(b, side); len(l) != 0 {
				t.Errorf("%s: Side %d is %v", name, side, l)
			}
			if p, ok := impl.Best(b, side); ok || p != 0 {
				t.Errorf("%s: Best of side %d is %d, %v", name, side, p, ok)
			}
			if n, ok := impl.Rested(b, side, order(999, 50)); ok || !sameBook(n, impl.Book{}) {
				t.Errorf("%s: Rested on side %d is %v, %v", name, side, n, ok)
			}
			if l := impl.Crossing(b, side, 0); len(l) != 0 {
				t.Errorf("%s: Crossing of side %d is %v", name, side, l)
			}
		}
	}
}

func without(l []impl.Order, id int64) []impl.Order {
	return slices.DeleteFunc(slices.Clone(l), func(o impl.Order) bool { return o.Id == id })
}

func TestFindAndTakenOfEachOrder(t *testing.T) {
	for name, b := range validBooks() {
		for side, l := range map[int64][]impl.Order{impl.SdBuy: b.Bids, impl.SdSell: b.Asks} {
			for _, o := range l {
				if s, x, ok := impl.Find(b, o.Id); !ok || s != side || x != o {
					t.Errorf("%s: Find(%d) is %d, %v, %v", name, o.Id, s, x, ok)
				}
				want := impl.Book{Bids: without(b.Bids, o.Id), Asks: without(b.Asks, o.Id)}
				if n, ok := impl.Taken(b, o.Id); !ok || !sameBook(n, want) {
					t.Errorf("%s: Taken(%d) is %v, %v", name, o.Id, n, ok)
				}
			}
		}
	}
}

func TestFindAndTakenOfOtherIds(t *testing.T) {
	for name, b := range validBooks() {
		for _, id := range []int64{0, -1, 999, 1000000000, 1000000001, math.MinInt64, math.MaxInt64} {
			if s, x, ok := impl.Find(b, id); ok || s != 0 || x != (impl.Order{}) {
				t.Errorf("%s: Find(%d) is %d, %v, %v", name, id, s, x, ok)
			}
			if n, ok := impl.Taken(b, id); ok || !sameBook(n, impl.Book{}) {
				t.Errorf("%s: Taken(%d) is %v, %v", name, id, n, ok)
			}
		}
	}
}

func TestFindAndTakenExamples(t *testing.T) {
	b := exampleBook(t)
	if s, o, ok := impl.Find(b, 6); !ok || s != impl.SdSell || o != (impl.Order{Id: 6, Acct: 1, Price: 102, Qty: 9}) {
		t.Errorf("Find(6) is %d, %v, %v", s, o, ok)
	}
	n, ok := impl.Taken(b, 1)
	if !ok {
		t.Error("order 1 is not taken")
	}
	wantIds(t, "Bids", n.Bids, 3, 2)
	wantIds(t, "Asks", n.Asks, 5, 4, 6)
}

// inserted places an order by counting the orders that are not worse.
func inserted(l []impl.Order, side int64, o impl.Order) []impl.Order {
	var ahead, behind []impl.Order
	for _, x := range l {
		if side == impl.SdBuy && x.Price >= o.Price || side == impl.SdSell && x.Price <= o.Price {
			ahead = append(ahead, x)
		} else {
			behind = append(behind, x)
		}
	}
	return append(append(ahead, o), behind...)
}

// restedModel is Rested for a valid book, a valid side and a valid order.
func restedModel(b impl.Book, side int64, o impl.Order) (impl.Book, bool) {
	all := append(slices.Clone(b.Bids), b.Asks...)
	if slices.Contains(ids(all), o.Id) {
		return impl.Book{}, false
	}
	if side == impl.SdBuy {
		if len(b.Bids) == 20 || len(b.Asks) > 0 && o.Price >= b.Asks[0].Price {
			return impl.Book{}, false
		}
		return impl.Book{Bids: inserted(b.Bids, side, o), Asks: b.Asks}, true
	}
	if len(b.Asks) == 20 || len(b.Bids) > 0 && o.Price <= b.Bids[0].Price {
		return impl.Book{}, false
	}
	return impl.Book{Bids: b.Bids, Asks: inserted(b.Asks, side, o)}, true
}

func wantRested(t *testing.T, b impl.Book, side int64, o impl.Order) (impl.Book, bool) {
	t.Helper()
	want, wantOk := restedModel(b, side, o)
	got, ok := impl.Rested(b, side, o)
	if ok != wantOk || !sameBook(got, want) {
		t.Fatalf("Rested(%v, %d, %v) is %v, %v, want %v, %v", b, side, o, got, ok, want, wantOk)
	}
	if ok && !impl.BookOk(got) {
		t.Fatalf("Rested(%v, %d, %v) is not valid", b, side, o)
	}
	return got, ok
}

func TestRestedInEachPlace(t *testing.T) {
	for _, b := range validBooks() {
		for price := int64(75); price <= 125; price++ {
			wantRested(t, b, impl.SdBuy, order(500, price))
			wantRested(t, b, impl.SdSell, order(500, price))
		}
		for _, price := range []int64{1, 2, 999999, 1000000} {
			wantRested(t, b, impl.SdBuy, order(500, price))
			wantRested(t, b, impl.SdSell, order(500, price))
		}
	}
}

func TestRestedManyOrders(t *testing.T) {
	d := dice(3)
	for range 60 {
		b := impl.Book{}
		for range 80 {
			side := 1 + d.roll(2)
			o := impl.Order{Id: 1 + d.roll(70), Acct: 1 + d.roll(3), Price: 96 + d.roll(5) + 3*(side-1), Qty: 1 + d.roll(9)}
			if next, ok := wantRested(t, b, side, o); ok {
				b = next
			}
		}
	}
}

func TestRestedBehindItsPriceAndBeforeWorse(t *testing.T) {
	b := exampleBook(t)
	n, _ := impl.Rested(b, impl.SdBuy, order(7, 100))
	wantIds(t, "a bid of the best price", n.Bids, 1, 3, 7, 2)
	wantIds(t, "the asks stay", n.Asks, 5, 4, 6)
	n, _ = impl.Rested(b, impl.SdBuy, order(7, 99))
	wantIds(t, "a bid of the worst price", n.Bids, 1, 3, 2, 7)
	n, _ = impl.Rested(b, impl.SdSell, order(7, 101))
	wantIds(t, "an ask of the best price", n.Asks, 5, 7, 4, 6)
	wantIds(t, "the bids stay", n.Bids, 1, 3, 2)
	n, _ = impl.Rested(b, impl.SdSell, order(7, 102))
	wantIds(t, "an ask of the worst price", n.Asks, 5, 4, 6, 7)
	n, _ = impl.Rested(b, impl.SdSell, order(7, 1000000))
	wantIds(t, "the greatest price", n.Asks, 5, 4, 6, 7)
	n, _ = impl.Rested(b, impl.SdBuy, order(7, 1))
	wantIds(t, "the least price", n.Bids, 1, 3, 2, 7)
}

func wantNotRested(t *testing.T, what string, b impl.Book, side int64, o impl.Order) {
	t.Helper()
	if n, ok := impl.Rested(b, side, o); ok || !sameBook(n, impl.Book{}) {
		t.Errorf("%s: Rested of %v on side %d is %v, %v", what, o, side, n, ok)
	}
}

func TestRestedRejects(t *testing.T) {
	b := exampleBook(t)
	wantNotRested(t, "price of the best ask", b, impl.SdBuy, order(7, 101))
	wantNotRested(t, "behind the best ask", b, impl.SdBuy, order(7, 105))
	wantNotRested(t, "price of the best bid", b, impl.SdSell, order(7, 100))
	wantNotRested(t, "below the best bid", b, impl.SdSell, order(7, 1))
	for id := int64(1); id <= 6; id++ {
		wantNotRested(t, "an Id of the book", b, impl.SdBuy, order(id, 90))
		wantNotRested(t, "an Id of the book", b, impl.SdSell, order(id, 110))
	}
	for _, f := range orderFields() {
		for _, n := range outside(f.low, f.high) {
			buy, sell := order(7, 90), order(7, 110)
			*f.at(&buy), *f.at(&sell) = n, n
			wantNotRested(t, f.name, b, impl.SdBuy, buy)
			wantNotRested(t, f.name, b, impl.SdSell, sell)
			wantNotRested(t, f.name, impl.Book{}, impl.SdBuy, buy)
			wantNotRested(t, f.name, impl.Book{}, impl.SdSell, sell)
		}
	}
	wantNotRested(t, "the zero order", impl.Book{}, impl.SdBuy, impl.Order{})
}

func TestRestedOrderLimits(t *testing.T) {
	for _, f := range orderFields() {
		for _, n := range []int64{f.low, f.high} {
			o := order(7, 90)
			*f.at(&o) = n
			wantRested(t, impl.Book{}, impl.SdBuy, o)
			wantRested(t, impl.Book{}, impl.SdSell, o)
		}
	}
}

func TestRestedOnAFullSide(t *testing.T) {
	nearly := impl.Book{Bids: run(1, 19, 100, -1), Asks: run(21, 19, 102, 1)}
	full := impl.Book{Bids: run(1, 20, 100, -1), Asks: run(21, 20, 102, 1)}
	for _, price := range []int64{101, 100, 90, 1} {
		if n, ok := impl.Rested(nearly, impl.SdBuy, order(99, price)); !ok || len(n.Bids) != 20 {
			t.Errorf("the 20th bid at %d does not rest", price)
		}
		wantNotRested(t, "the 21st bid", full, impl.SdBuy, order(99, price))
	}
	for _, price := range []int64{101, 102, 110, 1000000} {
		if n, ok := impl.Rested(nearly, impl.SdSell, order(99, price)); !ok || len(n.Asks) != 20 {
			t.Errorf("the 20th ask at %d does not rest", price)
		}
		wantNotRested(t, "the 21st ask", full, impl.SdSell, order(99, price))
	}
	wantRested(t, impl.Book{Bids: full.Bids}, impl.SdSell, order(99, 101))
	wantRested(t, impl.Book{Asks: full.Asks}, impl.SdBuy, order(99, 101))
}

func TestCrossingExamples(t *testing.T) {
	b := exampleBook(t)
	wantIds(t, "buy at 101", impl.Crossing(b, impl.SdBuy, 101), 5)
	wantIds(t, "buy without limit", impl.Crossing(b, impl.SdBuy, 0), 5, 4, 6)
	wantIds(t, "buy at 102", impl.Crossing(b, impl.SdBuy, 102), 5, 4, 6)
	wantIds(t, "buy at 100", impl.Crossing(b, impl.SdBuy, 100))
	wantIds(t, "sell at 100", impl.Crossing(b, impl.SdSell, 100), 1, 3)
	wantIds(t, "sell at 99", impl.Crossing(b, impl.SdSell, 99), 1, 3, 2)
	wantIds(t, "sell without limit", impl.Crossing(b, impl.SdSell, 0), 1, 3, 2)
	wantIds(t, "sell at 101", impl.Crossing(b, impl.SdSell, 101))
}

func TestCrossingIsExactlyWhatAPriceMeets(t *testing.T) {
	prices := []int64{0, 1, 2, 999999, 1000000}
	for p := int64(75); p <= 125; p++ {
		prices = append(prices, p)
	}
	for name, b := range validBooks() {
		for _, p := range prices {
			var buys, sells []impl.Order
			for _, o := range b.Asks {
				if p == 0 || p >= o.Price {
					buys = append(buys, o)
				}
			}
			for _, o := range b.Bids {
				if p == 0 || p <= o.Price {
					sells = append(sells, o)
				}
			}
			if got := impl.Crossing(b, impl.SdBuy, p); !slices.Equal(got, buys) {
				t.Errorf("%s: buy at %d meets %v, want %v", name, p, got, buys)
			}
			if got := impl.Crossing(b, impl.SdSell, p); !slices.Equal(got, sells) {
				t.Errorf("%s: sell at %d meets %v, want %v", name, p, got, sells)
			}
		}
	}
}

func TestCrossingRejectsPrices(t *testing.T) {
	for name, b := range validBooks() {
		for _, p := range outside(0, 1000000) {
			for _, side := range []int64{impl.SdBuy, impl.SdSell} {
				if l := impl.Crossing(b, side, p); len(l) != 0 {
					t.Errorf("%s: side %d at %d meets %v", name, side, p, l)
				}
			}
		}
	}
}

// useBook calls every function of the chapter and overwrites the lists that it gets.
func useBook(b impl.Book) {
	impl.BookOk(b)
	for side := int64(0); side <= 3; side++ {
		impl.Best(b, side)
		wipe(impl.Side(b, side))
		for _, price := range []int64{0, 1, 100, 101, 1000000} {
			wipe(impl.Crossing(b, side, price))
			n, _ := impl.Rested(b, side, order(500, max(price, 1)))
			wipe(n.Bids)
			wipe(n.Asks)
		}
	}
	for id := range int64(45) {
		impl.Find(b, id)
		n, _ := impl.Taken(b, id)
		wipe(n.Bids)
		wipe(n.Asks)
	}
}

func TestBooksAreNotChanged(t *testing.T) {
	for _, books := range []map[string]impl.Book{validBooks(), invalidBooks()} {
		for name, b := range books {
			wantUntouched(t, name, b, func(b impl.Book) impl.Book {
				useBook(b)
				return impl.Book{}
			})
		}
	}
}

func TestSidesOfAResultShareNothing(t *testing.T) {
	b := impl.Book{Bids: run(1, 6, 100, -1), Asks: run(11, 6, 101, 1)}
	wantUntouched(t, "Rested", b, func(b impl.Book) impl.Book {
		n, _ := impl.Rested(b, impl.SdBuy, order(99, 97))
		return n
	})
	wantUntouched(t, "Taken", b, func(b impl.Book) impl.Book {
		n, _ := impl.Taken(b, 3)
		return n
	})
}

func TestEqualArgumentsYieldEqualBooks(t *testing.T) {
	for name, b := range validBooks() {
		first, _ := impl.Rested(b, impl.SdBuy, order(500, 60))
		impl.Taken(b, 1)
		again, _ := impl.Rested(copyBook(b), impl.SdBuy, order(500, 60))
		if !sameBook(first, again) {
			t.Errorf("%s: first %v, then %v", name, first, again)
		}
	}
}
