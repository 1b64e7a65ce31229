package tests

import (
	"slices"

	"loop.example/g00609/impl"
)

// A market is a model of a book: the orders of both sides in the order of their arrival. What comes first on a side is
// found anew each time, by comparing the prices.
type market struct {
	orders []arrival
}

type arrival struct {
	impl.Order
	side int64
}

func marketOf(b impl.Book) *market {
	m := &market{}
	for _, o := range b.Bids {
		m.orders = append(m.orders, arrival{o, impl.SdBuy})
	}
	for _, o := range b.Asks {
		m.orders = append(m.orders, arrival{o, impl.SdSell})
	}
	return m
}

// sideOf returns the orders of a side, the best prices first.
func (m *market) sideOf(side int64) []impl.Order {
	var l []impl.Order
	for _, x := range m.orders {
		if x.side == side {
			l = append(l, x.Order)
		}
	}
	slices.SortStableFunc(l, func(a, b impl.Order) int {
		if side == impl.SdBuy {
			return int(b.Price - a.Price)
		}
		return int(a.Price - b.Price)
	})
	return l
}

func (m *market) book() impl.Book {
	return impl.Book{Bids: m.sideOf(impl.SdBuy), Asks: m.sideOf(impl.SdSell)}
}

func (m *market) at(id int64) int {
	return slices.IndexFunc(m.orders, func(x arrival) bool { return x.Id == id })
}

func (m *market) remove(id int64) {
	m.orders = slices.Delete(m.orders, m.at(id), m.at(id)+1)
}

// met returns the orders of the other side that a price meets.
func (m *market) met(side int64, price int64) []impl.Order {
	return slices.DeleteFunc(m.sideOf(3-side), func(o impl.Order) bool {
		return price != 0 && (side == impl.SdBuy && o.Price > price || side == impl.SdSell && o.Price < price)
	})
}

// match returns the records of an incoming order, and what is left of it.
func (m *market) match(side int64, o impl.Order, mode int64) ([]impl.Rec, int64) {
	var recs []impl.Rec
	left := o.Qty
	for left > 0 && len(m.met(side, o.Price)) > 0 {
		first := m.met(side, o.Price)[0]
		if first.Acct != o.Acct {
			qty := min(left, first.Qty)
			recs = append(recs, fill(o, first, qty))
			left -= qty
			m.orders[m.at(first.Id)].Qty -= qty
			if qty == first.Qty {
				m.remove(first.Id)
			}
			continue
		}
		if mode == impl.SpOld || mode == impl.SpBoth {
			recs = append(recs, gone(first, first.Qty))
			m.remove(first.Id)
		}
		if mode == impl.SpNew || mode == impl.SpBoth {
			recs = append(recs, gone(o, left))
			left = 0
		}
	}
	return recs, left
}

// exec executes a command and returns its records.
func (m *market) exec(c impl.Cmd) []impl.Rec {
	if !validCmd(c) || c.Kind > impl.CkRepl {
		return []impl.Rec{refused(c, impl.RcForm)}
	}
	recs := m.run(c)
	for i := range recs {
		recs[i].Sym = c.Sym
	}
	return recs
}

func (m *market) run(c impl.Cmd) []impl.Rec {
	at := m.at(c.Id)
	if c.Kind == impl.CkCancel || c.Kind == impl.CkRepl {
		if at < 0 || m.orders[at].Acct != c.Acct {
			return []impl.Rec{refused(c, impl.RcNone)}
		}
		old := m.orders[at]
		recs := []impl.Rec{gone(old.Order, old.Qty)}
		switch {
		case c.Kind == impl.CkCancel:
			m.remove(c.Id)
		case old.Price == c.Price && old.Qty >= c.Qty:
			m.orders[at].Qty = c.Qty
			recs = append(recs, ack(ordered(c)))
		default:
			m.remove(c.Id)
			recs = append(recs, m.enter(old.side, ordered(c), c.Mode, true)...)
		}
		return recs
	}
	if code := m.against(c); code != 0 {
		return []impl.Rec{refused(c, code)}
	}
	return m.enter(c.Side, ordered(c), c.Mode, c.Kind == impl.CkLimit || c.Kind == impl.CkPost)
}

// against returns the code with which a new order is rejected, or 0.
func (m *market) against(c impl.Cmd) int64 {
	trial := marketOf(m.book())
	recs, _ := trial.match(c.Side, ordered(c), c.Mode)
	switch {
	case m.at(c.Id) >= 0:
		return impl.RcTwice
	case c.Kind == impl.CkFok && traded(recs) != c.Qty:
		return impl.RcFill
	case c.Kind == impl.CkPost && len(m.met(c.Side, c.Price)) > 0:
		return impl.RcCross
	case c.Kind == impl.CkPost && len(m.sideOf(c.Side)) >= 20:
		return impl.RcRoom
	}
	return 0
}

func (m *market) enter(side int64, o impl.Order, mode int64, rests bool) []impl.Rec {
	recs, left := m.match(side, o, mode)
	recs = append([]impl.Rec{ack(o)}, recs...)
	if left == 0 {
		return recs
	}
	if !rests || len(m.sideOf(side)) >= 20 {
		return append(recs, gone(o, left))
	}
	o.Qty = left
	m.orders = append(m.orders, arrival{o, side})
	return recs
}

func ordered(c impl.Cmd) impl.Order {
	return impl.Order{Id: c.Id, Acct: c.Acct, Price: c.Price, Qty: c.Qty}
}

func traded(l []impl.Rec) int64 {
	sum := int64(0)
	for _, r := range l {
		if r.Kind == impl.RkFill {
			sum += r.Qty
		}
	}
	return sum
}

// The records of the chapters 3 and 4, without Sym.

func ack(o impl.Order) impl.Rec {
	return impl.Rec{Kind: impl.RkAck, Acct: o.Acct, Id: o.Id, Price: o.Price, Qty: o.Qty}
}

func fill(o impl.Order, resting impl.Order, qty int64) impl.Rec {
	return impl.Rec{Kind: impl.RkFill, Acct: o.Acct, Id: o.Id, Other: resting.Id, Price: resting.Price, Qty: qty}
}

func gone(o impl.Order, qty int64) impl.Rec {
	return impl.Rec{Kind: impl.RkCancel, Acct: o.Acct, Id: o.Id, Price: o.Price, Qty: qty}
}

func refused(c impl.Cmd, code int64) impl.Rec {
	return impl.Rec{Kind: impl.RkReject, Acct: c.Acct, Id: c.Id, Other: code}
}

// randomBook returns a valid book of accounts 1..accts, with prices of few levels.
func randomBook(d *dice, accts int64, most int64) impl.Book {
	m := &market{}
	id := 1 + d.roll(5)
	for _, side := range []int64{impl.SdBuy, impl.SdSell} {
		for range d.roll(most + 1) {
			price := 95 + d.roll(4)
			if side == impl.SdSell {
				price += 4
			}
			o := impl.Order{Id: id, Acct: 1 + d.roll(accts), Price: price, Qty: 1 + d.roll(6)}
			m.orders = append(m.orders, arrival{o, side})
			id += 1 + d.roll(3)
		}
	}
	return m.book()
}

// What is mirrored has buyers and sellers exchanged, and prices that rise where they fell.

func mirroredPrice(p int64) int64 {
	if p == 0 {
		return 0
	}
	return 1000001 - p
}

func mirroredList[T any](l []T, price func(x *T) *int64) []T {
	l = slices.Clone(l)
	for i := range l {
		*price(&l[i]) = mirroredPrice(*price(&l[i]))
	}
	return l
}

func mirroredOrders(l []impl.Order) []impl.Order {
	return mirroredList(l, func(o *impl.Order) *int64 { return &o.Price })
}

func mirroredRecs(l []impl.Rec) []impl.Rec {
	return mirroredList(l, func(r *impl.Rec) *int64 { return &r.Price })
}

func mirroredBook(b impl.Book) impl.Book {
	return impl.Book{Bids: mirroredOrders(b.Asks), Asks: mirroredOrders(b.Bids)}
}

func mirroredCmd(c impl.Cmd) impl.Cmd {
	c.Price = mirroredPrice(c.Price)
	if c.Side != 0 {
		c.Side = 3 - c.Side
	}
	return c
}
