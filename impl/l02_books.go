package impl

import (
	"iter"
	"slices"
)

const MaxBook = 20

type Order struct {
	Id    int64
	Acct  int64
	Price int64
	Qty   int64
}

type Book struct {
	Bids []Order
	Asks []Order
}

// A sortedList has the best items first, and equal ones in the order in which
// they came.
type sortedList[T any] struct {
	items []T
	worse func(a T, b T) bool
}

func (l *sortedList[T]) insert(item T) {
	at := 0
	for at < len(l.items) && !l.worse(l.items[at], item) {
		at++
	}
	l.items = slices.Insert(l.items, at, item)
}

func (l *sortedList[T]) isSorted() bool {
	for i := 1; i < len(l.items); i++ {
		if l.worse(l.items[i-1], l.items[i]) {
			return false
		}
	}
	return true
}

// An openBook has copies of the orders of a book, so that they can be moved
// and changed in place without touching the book.
type openBook struct {
	bids *sortedList[*Order]
	asks *sortedList[*Order]
}

func opened(b Book) openBook {
	return openBook{bids: openedSide(b.Bids, SdBuy), asks: openedSide(b.Asks, SdSell)}
}

func openedSide(orders []Order, side int64) *sortedList[*Order] {
	l := &sortedList[*Order]{}
	l.worse = func(a *Order, b *Order) bool { return better(side, b.Price, a.Price) }
	for _, o := range orders {
		l.items = append(l.items, &o)
	}
	return l
}

func (b openBook) side(side int64) *sortedList[*Order] {
	if side == SdBuy {
		return b.bids
	}
	return b.asks
}

// met yields the orders of the opposite side, from the first one on, that an
// order of the side with the limit meets.
func (b openBook) met(side int64, limit int64) iter.Seq[*Order] {
	return func(yield func(o *Order) bool) {
		for _, o := range b.side(opposite(side)).items {
			if !meets(side, limit, o.Price) || !yield(o) {
				return
			}
		}
	}
}

func (b openBook) drop(gone func(o *Order) bool) {
	b.bids.items = slices.DeleteFunc(b.bids.items, gone)
	b.asks.items = slices.DeleteFunc(b.asks.items, gone)
}

func (b openBook) closed() Book {
	return Book{Bids: closedSide(b.bids), Asks: closedSide(b.asks)}
}

func closedSide(l *sortedList[*Order]) []Order {
	var orders []Order
	for _, o := range l.items {
		orders = append(orders, *o)
	}
	return orders
}

func sideOk(side int64) bool {
	return side == SdBuy || side == SdSell
}

func opposite(side int64) int64 {
	if side == SdBuy {
		return SdSell
	}
	return SdBuy
}

// better reports whether price a is better than price b for an order of the side.
func better(side int64, a int64, b int64) bool {
	if side == SdBuy {
		return a > b
	}
	return a < b
}

// meets reports whether an order of the side with the limit meets a resting order with the price.
func meets(side int64, limit int64, price int64) bool {
	return limit == 0 || !better(side, price, limit)
}

func orderOk(o Order) bool {
	return within(o.Id, 1, MaxId) &&
		within(o.Acct, 1, MaxAcct) &&
		within(o.Price, 1, MaxPrice) &&
		within(o.Qty, 1, MaxQty)
}

func BookOk(b Book) bool {
	return ordersOk(b.Bids, SdBuy) && ordersOk(b.Asks, SdSell) && !crossed(b) && idsDiffer(b)
}

func ordersOk(orders []Order, side int64) bool {
	if len(orders) > MaxBook {
		return false
	}
	for _, o := range orders {
		if !orderOk(o) {
			return false
		}
	}
	return openedSide(orders, side).isSorted()
}

func crossed(b Book) bool {
	return len(b.Bids) > 0 && len(b.Asks) > 0 && b.Bids[0].Price >= b.Asks[0].Price
}

func idsDiffer(b Book) bool {
	seen := map[int64]bool{}
	for _, o := range b.Bids {
		seen[o.Id] = true
	}
	for _, o := range b.Asks {
		seen[o.Id] = true
	}
	return len(seen) == len(b.Bids)+len(b.Asks)
}

func Side(b Book, side int64) []Order {
	if !BookOk(b) || !sideOk(side) {
		return nil
	}
	return closedSide(opened(b).side(side))
}

func Find(b Book, id int64) (int64, Order, bool) {
	if !BookOk(b) {
		return 0, Order{}, false
	}
	for _, o := range b.Bids {
		if o.Id == id {
			return SdBuy, o, true
		}
	}
	for _, o := range b.Asks {
		if o.Id == id {
			return SdSell, o, true
		}
	}
	return 0, Order{}, false
}

func hasOrder(b Book, id int64) bool {
	_, _, ok := Find(b, id)
	return ok
}

func Rested(b Book, side int64, o Order) (Book, bool) {
	if !BookOk(b) || !sideOk(side) || !orderOk(o) {
		return Book{}, false
	}
	open := opened(b)
	open.side(side).insert(&o)
	result := open.closed()
	if !BookOk(result) {
		return Book{}, false
	}
	return result, true
}

func Taken(b Book, id int64) (Book, bool) {
	if !hasOrder(b, id) {
		return Book{}, false
	}
	open := opened(b)
	open.drop(func(o *Order) bool { return o.Id == id })
	return open.closed(), true
}

func Best(b Book, side int64) (int64, bool) {
	orders := Side(b, side)
	if len(orders) == 0 {
		return 0, false
	}
	return orders[0].Price, true
}

func Crossing(b Book, side int64, price int64) []Order {
	if !BookOk(b) || !sideOk(side) || !within(price, 0, MaxPrice) {
		return nil
	}
	var met []Order
	for o := range opened(b).met(side, price) {
		met = append(met, *o)
	}
	return met
}
