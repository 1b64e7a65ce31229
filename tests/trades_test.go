package tests

import (
	"math"
	"slices"
	"testing"

	"loop.example/g00609/impl"
)

// exampleTrades are the trades of the examples of chapter 9.
func exampleTrades() []impl.Trade {
	return []impl.Trade{{Price: 100, Qty: 2}, {Price: 103, Qty: 3}, {Price: 99, Qty: 1}}
}

// trades returns trades, each of a price and a quantity.
func trades(l ...[2]int64) []impl.Trade {
	var out []impl.Trade
	for _, x := range l {
		out = append(out, impl.Trade{Price: x[0], Qty: x[1]})
	}
	return out
}

func candle(t *testing.T, l ...impl.Trade) impl.Candle {
	t.Helper()
	c, ok := impl.CandleOf(l)
	if !ok {
		t.Fatalf("there is no candle of %d trades", len(l))
	}
	return c
}

func TestTradeExamples(t *testing.T) {
	l := exampleTrades()
	c, ok := impl.CandleOf(l)
	if !ok || c != (impl.Candle{Open: 100, High: 103, Low: 99, Close: 99, Qty: 6, Worth: 608}) || !impl.CandleOk(c) {
		t.Errorf("CandleOf is %+v, %v", c, ok)
	}
	if got, ok := impl.Behind(candle(t, l[:1]...), candle(t, l[1:]...)); !ok || got != c {
		t.Errorf("Behind is %+v, %v", got, ok)
	}
	if got := impl.Vwap(l); got != 101 {
		t.Errorf("Vwap is %d", got)
	}
}

// fillOf is a fill in the book of a symbol.
func fillOf(sym int64, price int64, qty int64) impl.Rec {
	return impl.Rec{Stamp: 1, Kind: impl.RkFill, Sym: sym, Acct: 1, Id: 1, Other: 2, Price: price, Qty: qty}
}

func tradesModel(l []impl.Rec, sym int64) []impl.Trade {
	var trades []impl.Trade
	for _, r := range l {
		if !validRec(r) {
			return nil
		}
		if r.Kind == 3 && r.Sym == sym && r.Price != 0 && r.Qty != 0 {
			trades = append(trades, impl.Trade{Price: r.Price, Qty: r.Qty})
		}
	}
	return trades
}

func wantTrades(t *testing.T, what string, l []impl.Rec, sym int64, want ...impl.Trade) {
	t.Helper()
	if got := impl.TradesOf(l, sym); !slices.Equal(got, want) {
		t.Errorf("%s: TradesOf book %d is %v, want %v", what, sym, got, want)
	}
}

func TestTradesOfEachKindAndBook(t *testing.T) {
	var l []impl.Rec
	for _, sym := range []int64{0, 1, 3, 255} {
		for kind := int64(1); kind <= 5; kind++ {
			r := fillOf(sym, 10*kind+sym, kind)
			r.Kind = kind
			l = append(l, r)
		}
		l = append(l, fillOf(sym, 7, 1+sym))
	}
	for _, sym := range []int64{0, 1, 3, 255} {
		wantTrades(t, "each kind", l, sym, impl.Trade{Price: 30 + sym, Qty: 3}, impl.Trade{Price: 7, Qty: 1 + sym})
	}
	for _, sym := range append(outside(0, 255), 2, 4, 254) {
		wantTrades(t, "other books", l, sym)
	}
	wantTrades(t, "no records", nil, 0)
	wantTrades(t, "no records", []impl.Rec{}, 0)
}

func TestTradesOfFillsWithoutPriceOrQuantity(t *testing.T) {
	good := impl.Trade{Price: 5, Qty: 6}
	for _, x := range []struct {
		price, qty int64
		is         bool
	}{
		{0, 0, false}, {0, 1, false}, {1, 0, false}, {0, 1000000, false}, {1000000, 0, false},
		{1, 1, true}, {1, 1000000, true}, {1000000, 1, true}, {1000000, 1000000, true}, {2, 2, true},
	} {
		r := fillOf(2, x.price, x.qty)
		want := []impl.Trade{good, good}
		if x.is {
			want = slices.Insert(want, 1, impl.Trade{Price: x.price, Qty: x.qty})
		}
		wantTrades(t, "a fill", []impl.Rec{fillOf(2, 5, 6), r, fillOf(2, 5, 6)}, 2, want...)
		wantTrades(t, "a fill alone", []impl.Rec{r}, 2, want[1:len(want)-1]...)
	}
}

func TestTradesOfInvalidRecords(t *testing.T) {
	good := fillOf(1, 5, 6)
	for _, r := range invalidRecs() {
		for _, l := range [][]impl.Rec{{r}, {r, good, good}, {good, r, good}, {good, good, r}} {
			for _, sym := range []int64{0, 1, 2, r.Sym} {
				wantTrades(t, "an invalid record", l, sym)
			}
		}
	}
}

func TestTradesOfManyRecords(t *testing.T) {
	var l []impl.Rec
	var want []impl.Trade
	for i := range int64(3000) {
		l = append(l, fillOf(2, 1+i, 1+i%7))
		want = append(want, impl.Trade{Price: 1 + i, Qty: 1 + i%7})
	}
	wantTrades(t, "3000 records", l, 2, want...)
}

func TestTradesOfRandomRecords(t *testing.T) {
	d := dice(91)
	some := 0
	for range 500 {
		l := randomRecs(&d, d.roll(60))
		for sym := int64(-1); sym < 7; sym++ {
			want := tradesModel(l, sym)
			wantTrades(t, "random", l, sym, want...)
			some += len(want)
		}
	}
	if some == 0 {
		t.Error("there was no trade")
	}
}

func TestTradesOfATape(t *testing.T) {
	_, tape := impl.Fold(ruleCmds())
	wantTrades(t, "the tape of chapter 6", tape, 0, impl.Trade{Price: 100, Qty: 3}, impl.Trade{Price: 101, Qty: 1})
	wantTrades(t, "the tape of chapter 6", tape, 1)
	d := dice(92)
	for range 40 {
		_, tape := impl.Fold(recordableCmds(&d))
		for sym := range int64(4) {
			qty := int64(0)
			for _, x := range impl.TradesOf(tape, sym) {
				qty += x.Qty
			}
			if volume := impl.Volume(tape, sym); qty != volume {
				t.Errorf("the trades in book %d have the quantity %d, but Volume is %d", sym, qty, volume)
			}
		}
	}
}

// candleModel returns the candle of valid trades.
func candleModel(l []impl.Trade) impl.Candle {
	var prices []int64
	qty, worth := int64(0), int64(0)
	for _, x := range l {
		prices = append(prices, x.Price)
		qty += x.Qty
		worth += x.Price * x.Qty
	}
	return impl.Candle{Open: prices[0], High: slices.Max(prices), Low: slices.Min(prices), Close: prices[len(prices)-1], Qty: qty, Worth: worth}
}

// wantCandle checks the candle of valid trades, and promise 9.
func wantCandle(t *testing.T, what string, l []impl.Trade) {
	t.Helper()
	want := candleModel(l)
	if c, ok := impl.CandleOf(l); !ok || c != want || !impl.CandleOk(c) {
		t.Errorf("%s: CandleOf is %+v, %v, want %+v", what, c, ok, want)
	}
	got := impl.Vwap(l)
	if got != want.Worth/want.Qty || got < want.Low || got > want.High {
		t.Errorf("%s: Vwap is %d, of the candle %+v", what, got, want)
	}
}

func wantNoCandle(t *testing.T, what string, l []impl.Trade) {
	t.Helper()
	if c, ok := impl.CandleOf(l); ok || c != (impl.Candle{}) {
		t.Errorf("%s: CandleOf is %+v, %v", what, c, ok)
	}
	if got := impl.Vwap(l); got != 0 {
		t.Errorf("%s: Vwap is %d", what, got)
	}
}

func TestCandles(t *testing.T) {
	for _, x := range []struct {
		trades [][2]int64
		want   impl.Candle
		vwap   int64
	}{
		{[][2]int64{{7, 3}}, impl.Candle{Open: 7, High: 7, Low: 7, Close: 7, Qty: 3, Worth: 21}, 7},
		{[][2]int64{{7, 3}, {9, 1}}, impl.Candle{Open: 7, High: 9, Low: 7, Close: 9, Qty: 4, Worth: 30}, 7},
		{[][2]int64{{9, 1}, {7, 3}}, impl.Candle{Open: 9, High: 9, Low: 7, Close: 7, Qty: 4, Worth: 30}, 7},
		{[][2]int64{{7, 1}, {9, 3}}, impl.Candle{Open: 7, High: 9, Low: 7, Close: 9, Qty: 4, Worth: 34}, 8},
		{[][2]int64{{5, 1}, {9, 1}, {2, 1}, {6, 1}}, impl.Candle{Open: 5, High: 9, Low: 2, Close: 6, Qty: 4, Worth: 22}, 5},
		{[][2]int64{{5, 1}, {2, 1}, {9, 1}, {5, 1}}, impl.Candle{Open: 5, High: 9, Low: 2, Close: 5, Qty: 4, Worth: 21}, 5},
		{[][2]int64{{100, 1}, {101, 1}}, impl.Candle{Open: 100, High: 101, Low: 100, Close: 101, Qty: 2, Worth: 201}, 100},
		{[][2]int64{{100, 1}, {101, 999999}}, impl.Candle{Open: 100, High: 101, Low: 100, Close: 101, Qty: 1000000, Worth: 100999999}, 100},
		{[][2]int64{{1, 1}, {1000000, 1000000}}, impl.Candle{Open: 1, High: 1000000, Low: 1, Close: 1000000, Qty: 1000001, Worth: 1000000000001}, 999999},
	} {
		l := trades(x.trades...)
		if c := candle(t, l...); c != x.want {
			t.Errorf("the candle of %v is %+v", l, c)
		}
		if got := impl.Vwap(l); got != x.vwap {
			t.Errorf("Vwap of %v is %d", l, got)
		}
		wantCandle(t, "by hand", l)
	}
}

func TestCandlesOf1To1000Trades(t *testing.T) {
	wantNoCandle(t, "nil", nil)
	wantNoCandle(t, "no trades", []impl.Trade{})
	most := impl.Trade{Price: 1000000, Qty: 1000000}
	for _, n := range []int{1, 2, 3, 20, 500, 999, 1000} {
		l := slices.Repeat([]impl.Trade{most}, n)
		wantCandle(t, "the greatest trades", l)
		l[0].Price, l[n-1].Qty = 3, 5
		wantCandle(t, "many trades", l)
	}
	for _, n := range []int{1001, 1002, 2000, 3000, 65536 + 1, 1 << 20} {
		wantNoCandle(t, "too many trades", slices.Repeat([]impl.Trade{{Price: 1, Qty: 1}}, n))
	}
	if c := candle(t, slices.Repeat([]impl.Trade{most}, 1000)...); c.Qty != 1000000000 || c.Worth != 1000000000000000 {
		t.Errorf("the greatest candle is %+v", c)
	}
}

func tradeFields() []field[impl.Trade] {
	return []field[impl.Trade]{
		{"Price", func(x *impl.Trade) *int64 { return &x.Price }, 1, 1000000},
		{"Qty", func(x *impl.Trade) *int64 { return &x.Qty }, 1, 1000000},
	}
}

func TestCandlesAtTheLimitsOfTrades(t *testing.T) {
	for _, f := range tradeFields() {
		for at := range 3 {
			for _, n := range []int64{f.low, f.high} {
				l := exampleTrades()
				*f.at(&l[at]) = n
				wantCandle(t, f.name, l)
				wantCandle(t, f.name+" alone", l[at:at+1])
			}
			for _, n := range append(outside(f.low, f.high), 0, 1000001) {
				l := exampleTrades()
				*f.at(&l[at]) = n
				wantNoCandle(t, f.name, l)
				wantNoCandle(t, f.name+" alone", l[at:at+1])
			}
		}
	}
	wantNoCandle(t, "a zero trade", append(exampleTrades(), impl.Trade{}))
}

func randomTrades(d *dice, n int64) []impl.Trade {
	var l []impl.Trade
	spread := 1 + d.roll(20)
	for range n {
		l = append(l, impl.Trade{Price: 1 + d.roll(spread), Qty: 1 + d.roll(9)})
	}
	return l
}

func TestCandleOfTwoPeriodsIsThatOfAllTrades(t *testing.T) {
	d := dice(93)
	for range 300 {
		l := randomTrades(&d, 2+d.roll(30))
		wantCandle(t, "random", l)
		for at := 1; at < len(l); at++ {
			a, b := candle(t, l[:at]...), candle(t, l[at:]...)
			if got, ok := impl.Behind(a, b); !ok || got != candleModel(l) || !impl.CandleOk(got) {
				t.Errorf("Behind(%+v, %+v) is %+v, %v", a, b, got, ok)
			}
		}
	}
}

func TestBehindThreePeriods(t *testing.T) {
	d := dice(94)
	for range 200 {
		l := randomTrades(&d, 30)
		a, b, c := candle(t, l[:10]...), candle(t, l[10:20]...), candle(t, l[20:]...)
		ab, _ := impl.Behind(a, b)
		bc, _ := impl.Behind(b, c)
		first, _ := impl.Behind(ab, c)
		last, _ := impl.Behind(a, bc)
		if first != last || first != candleModel(l) {
			t.Errorf("%+v, %+v, %+v: first %+v, then %+v", a, b, c, first, last)
		}
	}
}

func wantValidCandle(t *testing.T, what string, c impl.Candle) {
	t.Helper()
	if !impl.CandleOk(c) {
		t.Errorf("%s: %+v is not valid", what, c)
	}
}

// wantInvalidCandle also checks that nothing is behind a candle that is not valid, nor such a candle behind anything.
func wantInvalidCandle(t *testing.T, what string, c impl.Candle) {
	t.Helper()
	if impl.CandleOk(c) {
		t.Errorf("%s: %+v is valid", what, c)
	}
	good := impl.Candle{Open: 100, High: 103, Low: 99, Close: 99, Qty: 6, Worth: 608}
	for _, x := range [][2]impl.Candle{{c, good}, {good, c}, {c, c}} {
		if got, ok := impl.Behind(x[0], x[1]); ok || got != (impl.Candle{}) {
			t.Errorf("%s: Behind(%+v, %+v) is %+v, %v", what, x[0], x[1], got, ok)
		}
	}
}

// flat returns a candle of one price.
func flat(price int64, qty int64) impl.Candle {
	return impl.Candle{Open: price, High: price, Low: price, Close: price, Qty: qty, Worth: price * qty}
}

func TestCandleOkOfPrices(t *testing.T) {
	base := impl.Candle{Open: 12, High: 20, Low: 10, Close: 18, Qty: 10, Worth: 150}
	wantValidCandle(t, "base", base)
	for _, x := range []struct {
		what string
		at   func(c *impl.Candle) *int64
	}{
		{"Open", func(c *impl.Candle) *int64 { return &c.Open }},
		{"Close", func(c *impl.Candle) *int64 { return &c.Close }},
	} {
		for n := int64(-1); n <= 30; n++ {
			c := base
			*x.at(&c) = n
			if 10 <= n && n <= 20 {
				wantValidCandle(t, x.what, c)
			} else {
				wantInvalidCandle(t, x.what, c)
			}
		}
		for _, n := range outside(10, 20) {
			c := base
			*x.at(&c) = n
			wantInvalidCandle(t, x.what, c)
		}
	}
	for _, price := range []int64{1, 2, 500000, 999999, 1000000} {
		wantValidCandle(t, "one price", flat(price, 3))
	}
	for _, price := range []int64{0, -1, 1000001, 1 << 32, 1 << 40} {
		wantInvalidCandle(t, "one price", flat(price, 3))
	}
	wantValidCandle(t, "all prices", impl.Candle{Open: 1, High: 1000000, Low: 1, Close: 1000000, Qty: 1, Worth: 5})
	wantInvalidCandle(t, "Low 0", impl.Candle{Open: 5, High: 9, Low: 0, Close: 5, Qty: 2, Worth: 10})
	wantInvalidCandle(t, "Low -1", impl.Candle{Open: 5, High: 9, Low: -1, Close: 5, Qty: 2, Worth: 10})
	wantInvalidCandle(t, "High too great", impl.Candle{Open: 5, High: 1000001, Low: 1, Close: 5, Qty: 2, Worth: 10})
	wantInvalidCandle(t, "Low above High", impl.Candle{Open: 10, High: 9, Low: 10, Close: 10, Qty: 2, Worth: 20})
	wantInvalidCandle(t, "Low above High", impl.Candle{Open: 9, High: 9, Low: 10, Close: 9, Qty: 2, Worth: 19})
	wantInvalidCandle(t, "zero", impl.Candle{})
}

func TestCandleOkOfQuantities(t *testing.T) {
	for _, price := range []int64{1, 7, 1000000} {
		for _, qty := range []int64{1, 2, 1000001, 999999999, 1000000000} {
			wantValidCandle(t, "Qty", flat(price, qty))
		}
		for _, qty := range append(outside(1, 1000000000), 0, 1000000001) {
			wantInvalidCandle(t, "Qty", flat(price, qty))
		}
	}
}

func TestCandleOkOfWorth(t *testing.T) {
	for _, x := range []struct{ low, high, qty int64 }{
		{10, 20, 7}, {1, 1, 1}, {5, 5, 9}, {1, 1000000, 1}, {1, 1000000, 1000000000}, {999999, 1000000, 1000000000}, {1000000, 1000000, 1000000000},
	} {
		c := impl.Candle{Open: x.low, High: x.high, Low: x.low, Close: x.high, Qty: x.qty}
		least, most := x.qty*x.low, x.qty*x.high
		for _, worth := range []int64{least, (least + most) / 2, most} {
			c.Worth = worth
			wantValidCandle(t, "Worth", c)
		}
		for _, worth := range append(outside(least, most), least-1, most+1, math.MinInt64, math.MaxInt64) {
			c.Worth = worth
			wantInvalidCandle(t, "Worth", c)
		}
	}
}

// Where a product does not fit in 64 bits, what is left of it may be anything, also 0 or what Worth is.
func TestCandleOkOfValuesThatDoNotFit(t *testing.T) {
	most := int64(math.MaxInt64)
	for _, c := range []impl.Candle{
		{Open: most, High: most, Low: most, Close: most, Qty: most, Worth: most},
		{Open: most, High: most, Low: most, Close: most, Qty: 1, Worth: most},
		{Open: 1, High: 1, Low: 1, Close: 1, Qty: most, Worth: most},
		{Open: 1, High: most, Low: 1, Close: most, Qty: most, Worth: most},
		{Open: 1, High: most, Low: 1, Close: 1, Qty: 1, Worth: most},
		{Open: 1, High: 1000000, Low: 1, Close: 1000000, Qty: most, Worth: most},
		{Open: 1, High: 1, Low: 1, Close: 1, Qty: 1, Worth: most},
		{Open: -most - 1, High: most, Low: -most - 1, Close: most, Qty: most, Worth: 0},
		{Open: -most - 1, High: -most - 1, Low: -most - 1, Close: -most - 1, Qty: -most - 1, Worth: -most - 1},
	} {
		wantInvalidCandle(t, "the greatest values", c)
	}
	for _, price := range []int64{2, 3, 16, 1 << 10, 1 << 19, 1000000} {
		for _, qty := range []int64{1 << 45, 1<<45 + 1, 1 << 60, 1<<60 + 1, 1 << 62, most/price + 1, 2*(most/price) + 1} {
			wantInvalidCandle(t, "a product that does not fit", flat(price, qty))
			wantInvalidCandle(t, "a product that does not fit", impl.Candle{Open: 1, High: price, Low: 1, Close: 1, Qty: qty, Worth: qty})
		}
	}
	for _, price := range []int64{1 << 34, 1 << 35, 1 << 40, 1 << 62, most} {
		for _, qty := range []int64{1 << 29, 1000000000} {
			wantInvalidCandle(t, "a product that does not fit", flat(price, qty))
		}
	}
}

func TestBehindAtTheGreatestQuantity(t *testing.T) {
	for _, price := range []int64{1, 7, 1000000} {
		for _, x := range []struct{ a, b int64 }{
			{1, 1}, {1, 999999999}, {999999999, 1}, {500000000, 500000000}, {999999998, 1}, {1, 999999998},
		} {
			if got, ok := impl.Behind(flat(price, x.a), flat(price, x.b)); !ok || got != flat(price, x.a+x.b) {
				t.Errorf("at %d, %d behind %d is %+v, %v", price, x.b, x.a, got, ok)
			}
		}
		for _, x := range []struct{ a, b int64 }{
			{1, 1000000000}, {1000000000, 1}, {500000000, 500000001}, {500000001, 500000000}, {999999999, 2}, {1000000000, 1000000000},
		} {
			if got, ok := impl.Behind(flat(price, x.a), flat(price, x.b)); ok || got != (impl.Candle{}) {
				t.Errorf("at %d, %d behind %d is %+v, %v", price, x.b, x.a, got, ok)
			}
		}
	}
}

// The candles here are not those of trades, so that each field can only come from where it has to.
func TestBehindTakesEachField(t *testing.T) {
	a := impl.Candle{Open: 12, High: 20, Low: 10, Close: 15, Qty: 10, Worth: 150}
	b := impl.Candle{Open: 33, High: 40, Low: 30, Close: 36, Qty: 3, Worth: 100}
	c := impl.Candle{Open: 22, High: 50, Low: 5, Close: 44, Qty: 1, Worth: 7}
	for _, x := range []struct{ a, b, want impl.Candle }{
		{a, b, impl.Candle{Open: 12, High: 40, Low: 10, Close: 36, Qty: 13, Worth: 250}},
		{b, a, impl.Candle{Open: 33, High: 40, Low: 10, Close: 15, Qty: 13, Worth: 250}},
		{a, c, impl.Candle{Open: 12, High: 50, Low: 5, Close: 44, Qty: 11, Worth: 157}},
		{c, a, impl.Candle{Open: 22, High: 50, Low: 5, Close: 15, Qty: 11, Worth: 157}},
		{a, a, impl.Candle{Open: 12, High: 20, Low: 10, Close: 15, Qty: 20, Worth: 300}},
	} {
		if got, ok := impl.Behind(x.a, x.b); !ok || got != x.want {
			t.Errorf("Behind(%+v, %+v) is %+v, %v, want %+v", x.a, x.b, got, ok, x.want)
		}
	}
}

func TestTradesAreNotChanged(t *testing.T) {
	d := dice(95)
	for range 50 {
		wantKept(t, "TradesOf", randomRecs(&d, d.roll(60)), func(l []impl.Rec) []impl.Trade { return impl.TradesOf(l, 1) })
		l := randomTrades(&d, d.roll(60))
		wantKept(t, "CandleOf", l, func(l []impl.Trade) impl.Candle {
			c, _ := impl.CandleOf(l)
			return c
		})
		wantKept(t, "Vwap", l, impl.Vwap)
	}
	bad := append(exampleTrades(), impl.Trade{})
	wantKept(t, "Vwap of an invalid trade", bad, impl.Vwap)
	wantKept(t, "TradesOf an invalid record", []impl.Rec{fillOf(1, 1, 1), {}}, func(l []impl.Rec) []impl.Trade { return impl.TradesOf(l, 1) })
}

func TestEqualTradesYieldEqualResults(t *testing.T) {
	d := dice(96)
	before := fillOf(1, 50, 50)
	for range 200 {
		recs := append(randomRecs(&d, d.roll(60)), before)
		first := impl.TradesOf(recs, 1)
		kept, average := slices.Clone(first), impl.Vwap(first)
		c, ok := impl.CandleOf(first)
		// Other calls in between must not be seen.
		impl.TradesOf([]impl.Rec{before, before}, 1)
		impl.CandleOf(exampleTrades())
		impl.Vwap(nil)
		again := impl.TradesOf(slices.Clone(recs), 1)
		n, stillOk := impl.CandleOf(again)
		if !slices.Equal(again, kept) || !slices.Equal(first, kept) || n != c || ok != stillOk || impl.Vwap(again) != average {
			t.Errorf("first %v %+v, then %v %+v", kept, c, again, n)
		}
	}
}
