package tests

import (
	"cmp"
	"math"
	"slices"
	"testing"

	"loop.example/g00609/impl"
)

// An auction has the orders of both sides.
type auction struct {
	Buys  []impl.Order
	Sells []impl.Order
}

// offers returns orders of the account `first` with consecutive Ids from there on, each with a price and a quantity.
func offers(first int64, l ...[2]int64) []impl.Order {
	var out []impl.Order
	for i, x := range l {
		out = append(out, by(first, first+int64(i), x[0], x[1]))
	}
	return out
}

// exampleAuction is the auction of the examples of chapter 8.
func exampleAuction() auction {
	return auction{
		Buys:  offers(1, [2]int64{103, 5}, [2]int64{101, 4}, [2]int64{99, 9}),
		Sells: offers(11, [2]int64{100, 3}, [2]int64{101, 5}, [2]int64{104, 7}),
	}
}

func cross(buyer impl.Order, seller impl.Order, price int64, qty int64) impl.Rec {
	return impl.Rec{Kind: impl.RkFill, Acct: buyer.Acct, Id: buyer.Id, Other: seller.Id, Price: price, Qty: qty}
}

func TestAuctionExamples(t *testing.T) {
	x := exampleAuction()
	for price, want := range map[int64]int64{1: 0, 99: 0, 100: 3, 101: 8, 102: 5, 103: 5, 104: 0, 1000000: 0, 0: -1, 1000001: -1} {
		if got := impl.VolumeAt(x.Buys, x.Sells, price); got != want {
			t.Errorf("VolumeAt %d is %d, want %d", price, got, want)
		}
	}
	if price, qty := impl.AuctionPrice(x.Buys, x.Sells); price != 101 || qty != 8 {
		t.Errorf("AuctionPrice is %d, %d", price, qty)
	}
	want := []impl.Rec{
		cross(x.Buys[0], x.Sells[0], 101, 3),
		cross(x.Buys[0], x.Sells[1], 101, 2),
		cross(x.Buys[1], x.Sells[1], 101, 3),
	}
	if got := impl.Uncrossed(x.Buys, x.Sells); !slices.Equal(got, want) {
		t.Errorf("Uncrossed is %v, want %v", got, want)
	}
}

// The models count single units.

func (x auction) sumsAt(price int64) (int64, int64) {
	bought, sold := int64(0), int64(0)
	for _, o := range x.Buys {
		if o.Price >= price {
			bought += o.Qty
		}
	}
	for _, o := range x.Sells {
		if o.Price <= price {
			sold += o.Qty
		}
	}
	return bought, sold
}

func (x auction) price() (int64, int64) {
	var all [][]int64
	for _, o := range slices.Concat(x.Buys, x.Sells) {
		bought, sold := x.sumsAt(o.Price)
		gap := bought - sold
		if gap < 0 {
			gap = -gap
		}
		all = append(all, []int64{-min(bought, sold), gap, o.Price})
	}
	if len(all) == 0 {
		return 0, 0
	}
	first := slices.MinFunc(all, slices.Compare)
	if first[0] == 0 {
		return 0, 0
	}
	return first[2], -first[0]
}

// unitsOf returns, for each unit of a side in the order in which they trade, the index of its order.
func unitsOf(l []impl.Order, sign int64) []int {
	var at []int
	for i := range l {
		at = append(at, i)
	}
	slices.SortStableFunc(at, func(i, j int) int { return cmp.Compare(sign*l[i].Price, sign*l[j].Price) })
	var units []int
	for _, i := range at {
		units = append(units, slices.Repeat([]int{i}, int(l[i].Qty))...)
	}
	return units
}

func (x auction) trades() []impl.Rec {
	price, qty := x.price()
	buyers, sellers := unitsOf(x.Buys, -1), unitsOf(x.Sells, 1)
	var l []impl.Rec
	for i := range qty {
		if i > 0 && buyers[i] == buyers[i-1] && sellers[i] == sellers[i-1] {
			l[len(l)-1].Qty++
		} else {
			l = append(l, cross(x.Buys[buyers[i]], x.Sells[sellers[i]], price, 1))
		}
	}
	return l
}

// wantAuction compares the price and the trades of an auction.
func wantAuction(t *testing.T, what string, x auction, price int64, qty int64, want ...impl.Rec) {
	t.Helper()
	if p, q := impl.AuctionPrice(x.Buys, x.Sells); p != price || q != qty {
		t.Errorf("%s: AuctionPrice is %d, %d, want %d, %d", what, p, q, price, qty)
	}
	if got := impl.Uncrossed(x.Buys, x.Sells); !slices.Equal(got, want) {
		t.Errorf("%s: Uncrossed is %v, want %v", what, got, want)
	}
}

// wantNoAuction checks what there is of orders that are not as VolumeAt requires.
func wantNoAuction(t *testing.T, what string, x auction) {
	t.Helper()
	wantAuction(t, what, x, 0, 0)
	for _, price := range []int64{0, 1, 50, 100, 101, 1000000, 1000001} {
		if got := impl.VolumeAt(x.Buys, x.Sells, price); got != -1 {
			t.Errorf("%s: VolumeAt %d is %d", what, price, got)
		}
	}
}

// A priceCase is an auction of which the buyers and the sellers each have a price and a quantity.
type priceCase struct {
	name  string
	buys  [][2]int64
	sells [][2]int64
	price int64
	qty   int64
}

func priceCases() []priceCase {
	type l = [][2]int64
	return []priceCase{
		{"no orders", nil, nil, 0, 0},
		{"no buyers", nil, l{{100, 5}}, 0, 0},
		{"no sellers", l{{100, 5}}, nil, 0, 0},
		{"buyers below sellers", l{{99, 5}, {98, 1}}, l{{100, 5}, {101, 1}}, 0, 0},
		{"extreme prices that do not meet", l{{1, 5}}, l{{1000000, 5}}, 0, 0},
		{"one price", l{{100, 5}}, l{{100, 5}}, 100, 5},
		{"one price, more to buy", l{{100, 6}}, l{{100, 5}}, 100, 5},
		{"one price, more to sell", l{{100, 5}}, l{{100, 6}}, 100, 5},
		{"the least price of all", l{{1, 2}}, l{{1, 3}}, 1, 2},
		{"the greatest price of all", l{{1000000, 2}}, l{{1000000, 3}}, 1000000, 2},
		{"extreme prices that meet", l{{1000000, 2}}, l{{1, 2}}, 1, 2},
		{"the same volume and gap", l{{102, 5}}, l{{100, 5}}, 100, 5},
		{"the same volume and gap, the lesser price last", l{{103, 5}, {101, 5}}, l{{100, 5}, {90, 5}}, 100, 10},
		{"the same volume and gap, in which one has more to buy and one more to sell", l{{104, 5}, {100, 2}}, l{{100, 5}, {104, 2}}, 100, 5},
		{"the same volume, more to buy at the lesser price", l{{102, 5}, {100, 5}}, l{{100, 5}}, 102, 5},
		{"the same volume, more to sell at the greater price", l{{102, 5}}, l{{100, 5}, {102, 5}}, 100, 5},
		{"the same volume, the least gap in between", l{{104, 5}, {100, 2}}, l{{100, 5}, {104, 2}, {103, 1}}, 103, 5},
		{"the same volume, the least gap at one more to buy", l{{104, 5}, {101, 1}, {100, 3}}, l{{100, 5}, {104, 2}}, 101, 5},
		{"the same volume, the least gap at the price of one that cannot trade", l{{110, 5}, {100, 5}}, l{{100, 5}, {110, 3}, {120, 9}, {105, 1}}, 105, 5},
		{"more volume with a greater gap", l{{102, 5}, {100, 10}}, l{{100, 6}}, 100, 6},
		{"more volume at a greater price", l{{110, 6}, {100, 1}}, l{{100, 5}, {110, 1}}, 110, 6},
		{"several orders of a price", l{{101, 2}, {100, 1}, {101, 3}}, l{{100, 2}, {101, 9}, {100, 2}}, 101, 5},
		{"no order in between", l{{110, 4}, {90, 9}}, l{{95, 4}, {120, 9}}, 95, 4},
		{"the greatest quantities", l{{7, 1000000}, {7, 1000000}}, l{{7, 1000000}, {6, 999999}}, 7, 1999999},
	}
}

func TestAuctionPrices(t *testing.T) {
	for _, c := range priceCases() {
		x := auction{offers(1, c.buys...), offers(51, c.sells...)}
		for range 2 {
			if price, qty := impl.AuctionPrice(x.Buys, x.Sells); price != c.price || qty != c.qty {
				t.Errorf("%s: AuctionPrice is %d, %d, want %d, %d", c.name, price, qty, c.price, c.qty)
			}
			wantPromise8(t, c.name, x)
			// The order of the orders must not matter.
			slices.Reverse(x.Buys)
			slices.Reverse(x.Sells)
		}
	}
}

// wantPromise8 checks that at no price more trades, that nobody trades beyond its limit, and that better orders, and
// earlier ones of the same price, trade first. The Ids of a side differ.
func wantPromise8(t *testing.T, what string, x auction) {
	t.Helper()
	price, qty := impl.AuctionPrice(x.Buys, x.Sells)
	for _, o := range slices.Concat(x.Buys, x.Sells) {
		for p := max(o.Price-1, 1); p <= min(o.Price+1, 1000000); p++ {
			if v := impl.VolumeAt(x.Buys, x.Sells, p); v > qty || p == price && v != qty {
				t.Errorf("%s: %d trades at %d, %d at the price %d of %v", what, v, p, qty, price, x)
			}
		}
	}
	bought, sold := map[int64]int64{}, map[int64]int64{}
	for _, r := range impl.Uncrossed(x.Buys, x.Sells) {
		if r.Price != price || r.Qty < 1 || !impl.RecOk(r) {
			t.Errorf("%s: %v is a trade of %v at %d", what, r, x, price)
		}
		bought[r.Id] += r.Qty
		sold[r.Other] += r.Qty
		qty -= r.Qty
	}
	if qty != 0 {
		t.Errorf("%s: of the quantity of %v, %d is not traded", what, x, qty)
	}
	wantServed(t, what, x.Buys, bought, func(o impl.Order) int64 { return o.Price - price })
	wantServed(t, what, x.Sells, sold, func(o impl.Order) int64 { return price - o.Price })
}

// wantServed checks what the orders of a side got, of which each has a gain by which it is better than the price.
func wantServed(t *testing.T, what string, l []impl.Order, got map[int64]int64, gain func(o impl.Order) int64) {
	t.Helper()
	sum, all := int64(0), int64(0)
	for i, o := range l {
		sum += got[o.Id]
		if got[o.Id] > o.Qty || got[o.Id] > 0 && gain(o) < 0 {
			t.Errorf("%s: %v trades %d of %v", what, o, got[o.Id], l)
		}
		for j, before := range l {
			isAhead := gain(before) > gain(o) || gain(before) == gain(o) && j < i
			if isAhead && got[o.Id] > 0 && got[before.Id] != before.Qty {
				t.Errorf("%s: %v trades before %v", what, o, before)
			}
		}
	}
	for _, n := range got {
		all += n
	}
	if all != sum {
		t.Errorf("%s: %d is traded, but %d by orders of %v", what, all, sum, l)
	}
}

func TestUncrossedInTheOrderOfPriceAndTime(t *testing.T) {
	buys := []impl.Order{by(1, 9, 100, 2), by(2, 3, 102, 1), by(3, 7, 101, 4), by(4, 5, 101, 3), by(5, 1, 102, 2), by(6, 2, 101, 9)}
	sells := []impl.Order{by(7, 30, 101, 1), by(8, 20, 99, 5), by(9, 25, 101, 2), by(10, 10, 100, 2), by(11, 40, 99, 1), by(12, 41, 102, 50)}
	wantAuction(t, "several orders of each price", auction{buys, sells}, 101, 11,
		cross(buys[1], sells[1], 101, 1),
		cross(buys[4], sells[1], 101, 2),
		cross(buys[2], sells[1], 101, 2),
		cross(buys[2], sells[4], 101, 1),
		cross(buys[2], sells[3], 101, 1),
		cross(buys[3], sells[3], 101, 1),
		cross(buys[3], sells[0], 101, 1),
		cross(buys[3], sells[2], 101, 1),
		cross(buys[5], sells[2], 101, 1))
	one := []impl.Order{by(1, 5, 100, 3), by(2, 4, 100, 3), by(3, 6, 100, 3)}
	all := []impl.Order{by(4, 9, 100, 7)}
	wantAuction(t, "buyers of one price", auction{one, all}, 100, 7,
		cross(one[0], all[0], 100, 3), cross(one[1], all[0], 100, 3), cross(one[2], all[0], 100, 1))
	wantAuction(t, "sellers of one price", auction{all, one}, 100, 7,
		cross(all[0], one[0], 100, 3), cross(all[0], one[1], 100, 3), cross(all[0], one[2], 100, 1))
}

func TestUncrossedStopsAtTheQuantity(t *testing.T) {
	buys, sells := offers(1, [2]int64{105, 4}, [2]int64{100, 9}), offers(11, [2]int64{100, 6}, [2]int64{105, 1})
	wantAuction(t, "a buyer is left", auction{buys, sells}, 100, 6, cross(buys[0], sells[0], 100, 4), cross(buys[1], sells[0], 100, 2))
	buys, sells = offers(1, [2]int64{105, 6}, [2]int64{100, 1}), offers(11, [2]int64{100, 4}, [2]int64{105, 9})
	wantAuction(t, "a seller is left", auction{buys, sells}, 105, 6, cross(buys[0], sells[0], 105, 4), cross(buys[0], sells[1], 105, 2))
	buys, sells = offers(1, [2]int64{105, 5}, [2]int64{99, 9}), offers(11, [2]int64{100, 5}, [2]int64{106, 9})
	wantAuction(t, "those that are left do not meet", auction{buys, sells}, 100, 5, cross(buys[0], sells[0], 100, 5))
}

// Neither the accounts nor the Ids of the orders matter.
func TestAuctionsOfOneAccountAndOneId(t *testing.T) {
	buys := []impl.Order{by(5, 8, 100, 2), by(5, 8, 101, 2), by(5, 8, 100, 2)}
	sells := []impl.Order{by(5, 8, 100, 3), by(5, 8, 99, 2)}
	wantAuction(t, "one account, one Id", auction{buys, sells}, 100, 5,
		cross(buys[1], sells[1], 100, 2), cross(buys[0], sells[0], 100, 2), cross(buys[2], sells[0], 100, 1))
}

// randomAuction has orders of few prices, with different Ids in no order.
func randomAuction(d *dice, most int64) auction {
	side := func(first int64) []impl.Order {
		var l []impl.Order
		shift := d.roll(61)
		for i := range d.roll(most + 1) {
			l = append(l, by(1+d.roll(9), first+(shift+7*i)%61, 1+d.roll(9), 1+d.roll(6)))
		}
		return l
	}
	return auction{side(1), side(1 + 30*d.roll(4))}
}

func TestAuctionsRandomly(t *testing.T) {
	d := dice(81)
	none, some := 0, 0
	for i := range 2000 {
		x := randomAuction(&d, 1+int64(i)%60)
		for price := int64(1); price <= 12; price++ {
			bought, sold := x.sumsAt(price)
			if got := impl.VolumeAt(x.Buys, x.Sells, price); got != min(bought, sold) {
				t.Errorf("VolumeAt %d of %v is %d, want the lesser of %d and %d", price, x, got, bought, sold)
			}
		}
		price, qty := x.price()
		wantAuction(t, "random", x, price, qty, x.trades()...)
		wantPromise8(t, "random", x)
		if qty == 0 {
			none++
		} else {
			some++
		}
	}
	if none < 50 || some < 50 {
		t.Errorf("of %d auctions nothing trades in %d", none+some, none)
	}
}

func TestVolumeAtPrices(t *testing.T) {
	whole := auction{offers(1, [2]int64{1000000, 3}), offers(11, [2]int64{1, 2})}
	for _, x := range []auction{whole, exampleAuction(), {}, {Buys: whole.Buys}, {Sells: whole.Sells}} {
		for _, price := range append(outside(1, 1000000), 0, 1000001, math.MinInt64, math.MaxInt64) {
			if got := impl.VolumeAt(x.Buys, x.Sells, price); got != -1 {
				t.Errorf("VolumeAt %d of %v is %d", price, x, got)
			}
		}
	}
	for _, price := range []int64{1, 2, 500000, 999999, 1000000} {
		if got := impl.VolumeAt(whole.Buys, whole.Sells, price); got != 2 {
			t.Errorf("VolumeAt %d is %d", price, got)
		}
		for _, x := range []auction{{}, {Buys: whole.Buys}, {Sells: whole.Sells}} {
			if got := impl.VolumeAt(x.Buys, x.Sells, price); got != 0 {
				t.Errorf("VolumeAt %d of %v is %d", price, x, got)
			}
		}
	}
}

// A buyer takes part at its price and below it, a seller at its price and above it.
func TestVolumeAtTheLimitsOfTheOrders(t *testing.T) {
	for _, limit := range []int64{2, 100, 999999} {
		buys, sells := offers(1, [2]int64{limit, 5}), offers(11, [2]int64{1, 9})
		for price, want := range map[int64]int64{limit - 1: 5, limit: 5, limit + 1: 0} {
			if got := impl.VolumeAt(buys, sells, price); got != want {
				t.Errorf("a buyer with the limit %d: VolumeAt %d is %d", limit, price, got)
			}
		}
		buys, sells = offers(1, [2]int64{1000000, 9}), offers(11, [2]int64{limit, 5})
		for price, want := range map[int64]int64{limit - 1: 0, limit: 5, limit + 1: 5} {
			if got := impl.VolumeAt(buys, sells, price); got != want {
				t.Errorf("a seller with the limit %d: VolumeAt %d is %d", limit, price, got)
			}
		}
	}
}

func sameOffers(first int64, n int) []impl.Order {
	return offers(first, slices.Repeat([][2]int64{{100, 1000000}}, n)...)
}

func TestAuctionsOfManyOrders(t *testing.T) {
	for _, n := range []int{1, 20, 21, 40, 41, 59, 60} {
		x := auction{sameOffers(1, n), sameOffers(100, n)}
		var want []impl.Rec
		for i := range x.Buys {
			want = append(want, cross(x.Buys[i], x.Sells[i], 100, 1000000))
		}
		wantAuction(t, "many on both sides", x, 100, 1000000*int64(n), want...)
		wantAuction(t, "many buyers", auction{x.Buys, x.Sells[:1]}, 100, 1000000, want[0])
		wantAuction(t, "many sellers", auction{x.Buys[:1], x.Sells}, 100, 1000000, want[0])
		if got := impl.VolumeAt(x.Buys, x.Sells, 100); got != 1000000*int64(n) {
			t.Errorf("VolumeAt of %d orders on each side is %d", n, got)
		}
		wantAuction(t, "no sellers", auction{Buys: x.Buys}, 0, 0)
		wantAuction(t, "no buyers", auction{Sells: x.Sells}, 0, 0)
	}
	for _, n := range []int{61, 62, 120, 300, 200000} {
		long := sameOffers(1, 1)
		long = slices.Repeat(long, n)
		wantNoAuction(t, "too many buyers", auction{long, sameOffers(100, 1)})
		wantNoAuction(t, "too many sellers", auction{sameOffers(100, 1), long})
		wantNoAuction(t, "too many buyers, and 60 sellers", auction{long, sameOffers(40, 60)})
		wantNoAuction(t, "too many of both", auction{long, long})
		wantNoAuction(t, "too many buyers, no sellers", auction{Buys: long})
		wantNoAuction(t, "too many sellers, no buyers", auction{Sells: long})
	}
}

func TestAuctionsOfInvalidOrders(t *testing.T) {
	for _, f := range orderFields() {
		for _, n := range outside(f.low, f.high) {
			for at := range 3 {
				x := exampleAuction()
				*f.at(&x.Buys[at]) = n
				wantNoAuction(t, "a buyer's "+f.name, x)
				wantNoAuction(t, "a buyer's "+f.name+", no sellers", auction{Buys: x.Buys})
				x = exampleAuction()
				*f.at(&x.Sells[at]) = n
				wantNoAuction(t, "a seller's "+f.name, x)
				wantNoAuction(t, "a seller's "+f.name+", no buyers", auction{Sells: x.Sells})
			}
		}
	}
	x := exampleAuction()
	wantNoAuction(t, "a zero buyer", auction{append(x.Buys, impl.Order{}), x.Sells})
	wantNoAuction(t, "a zero seller", auction{x.Buys, append(x.Sells, impl.Order{})})
}

func TestAuctionsAtTheLimitsOfOrders(t *testing.T) {
	for _, f := range orderFields() {
		for _, n := range []int64{f.low, f.high} {
			x := auction{offers(1, [2]int64{100, 5}), offers(11, [2]int64{100, 5})}
			*f.at(&x.Buys[0]) = n
			*f.at(&x.Sells[0]) = n
			price, qty := x.Buys[0].Price, x.Buys[0].Qty
			wantAuction(t, f.name, x, price, qty, cross(x.Buys[0], x.Sells[0], price, qty))
			if got := impl.VolumeAt(x.Buys, x.Sells, price); got != qty {
				t.Errorf("%s %d: VolumeAt is %d", f.name, n, got)
			}
		}
	}
}

func TestAuctionsAreNotChanged(t *testing.T) {
	d := dice(82)
	all := []auction{exampleAuction(), {}, {Buys: sameOffers(1, 61), Sells: sameOffers(1, 1)}, {Buys: []impl.Order{{}}}}
	for range 100 {
		all = append(all, randomAuction(&d, 60))
	}
	for _, x := range all {
		wantKept(t, "Uncrossed", x, func(x auction) []impl.Rec { return impl.Uncrossed(x.Buys, x.Sells) })
		wantKept(t, "AuctionPrice", x, func(x auction) []int64 {
			price, qty := impl.AuctionPrice(x.Buys, x.Sells)
			return []int64{price, qty}
		})
		wantKept(t, "VolumeAt", x, func(x auction) int64 { return impl.VolumeAt(x.Buys, x.Sells, 5) })
	}
}

func TestEqualAuctionsYieldEqualResults(t *testing.T) {
	d := dice(83)
	last := exampleAuction()
	for range 200 {
		x := randomAuction(&d, 60)
		price, qty := impl.AuctionPrice(x.Buys, x.Sells)
		volume, recs := impl.VolumeAt(x.Buys, x.Sells, 5), impl.Uncrossed(x.Buys, x.Sells)
		kept := slices.Clone(recs)
		// Another call in between must not be seen.
		impl.Uncrossed(last.Buys, last.Sells)
		last = deepCopy(x)
		wantAuction(t, "again", last, price, qty, kept...)
		if again := impl.VolumeAt(last.Buys, last.Sells, 5); again != volume {
			t.Errorf("VolumeAt of %v is first %d, then %d", x, volume, again)
		}
		if !slices.Equal(recs, kept) {
			t.Errorf("the records of %v changed by another call", x)
		}
	}
}
