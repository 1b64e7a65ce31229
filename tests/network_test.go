package tests

import (
	"slices"

	"loop.example/g00609/impl"
)

// A network is a model of a fabric: each of its nodes has an exchange, and lists of what waits and what was put out.
type network struct {
	cmds  []impl.Cmd
	plan  []impl.Move
	next  int64
	owner []int64
	nodes []*node
}

type node struct {
	exchange *exchange
	inbox    []impl.Item
	out      []impl.Frag
}

func networkOf(f impl.Fabric) *network {
	f = deepCopy(f)
	n := &network{cmds: f.Cmds, plan: f.Plan, next: f.Next, owner: f.Owner}
	for _, s := range f.Shards {
		n.nodes = append(n.nodes, &node{exchange: exchangeOf(s.E), inbox: s.Inbox, out: s.Out})
	}
	return n
}

func (n *network) fabric() impl.Fabric {
	f := impl.Fabric{Cmds: n.cmds, Plan: n.plan, Next: n.next, Owner: n.owner}
	for _, x := range n.nodes {
		f.Shards = append(f.Shards, impl.Shard{E: x.exchange.engine(), Inbox: x.inbox, Out: x.out})
	}
	return deepCopy(f)
}

// nodesOf returns the nodes from and to which a move takes a book, or none if it takes no book anywhere.
func (n *network) nodesOf(m impl.Move) []*node {
	if m.Sym < 0 || m.Sym > 3 || m.To < 0 || m.To >= int64(len(n.nodes)) {
		return nil
	}
	return []*node{n.nodes[n.owner[m.Sym]], n.nodes[m.To]}
}

func (n *network) can(who int64) bool {
	if who < 0 || who > int64(len(n.nodes)) {
		return false
	}
	if who > 0 {
		return len(n.nodes[who-1].inbox) > 0
	}
	for _, m := range n.plan {
		if m.After != n.next {
			continue
		}
		for _, x := range n.nodesOf(m) {
			if len(x.inbox) > 0 {
				return false
			}
		}
		return true
	}
	return n.next != int64(len(n.cmds))
}

func (n *network) runnable() []int64 {
	var l []int64
	for who := range int64(5) {
		if n.can(who) {
			l = append(l, who)
		}
	}
	return l
}

func (n *network) step(who int64) bool {
	if !n.can(who) {
		return false
	}
	if who > 0 {
		n.nodes[who-1].run(who - 1)
		return true
	}
	for i, m := range n.plan {
		if m.After == n.next {
			n.plan = append(slices.Clone(n.plan[:i]), n.plan[i+1:]...)
			n.move(m)
			return true
		}
	}
	c := n.cmds[n.next]
	n.next++
	for shard, x := range n.nodes {
		if n.concerns(c, int64(shard)) {
			x.inbox = append(x.inbox, impl.Item{Stamp: n.next, C: c})
		}
	}
	return true
}

func (n *network) move(m impl.Move) {
	l := n.nodesOf(m)
	if l == nil || l[0] == l[1] {
		return
	}
	l[1].exchange.markets[m.Sym] = l[0].exchange.markets[m.Sym]
	l[0].exchange.markets[m.Sym] = marketOf(impl.Book{})
	n.owner[m.Sym] = m.To
}

func (n *network) concerns(c impl.Cmd, shard int64) bool {
	switch {
	case !validCmd(c):
		return shard == 0
	case c.Kind == impl.CkMass || c.Kind == impl.CkBlock || c.Kind == impl.CkFree:
		return true
	}
	return n.owner[c.Sym] == shard
}

func (x *node) run(shard int64) {
	i := x.inbox[0]
	x.inbox = x.inbox[1:]
	recs := slices.DeleteFunc(x.exchange.step(i.C), func(r impl.Rec) bool { return r.Kind == impl.RkDone })
	x.out = append(x.out, impl.Frag{Stamp: i.Stamp, Shard: shard, Recs: withStamp(recs, i.Stamp)})
}

// stepAll performs the steps that are possible, and returns their number.
func (n *network) stepAll(l []int64) int64 {
	steps := int64(0)
	for i, who := range l {
		if i < 600 && n.step(who) {
			steps++
		}
	}
	return steps
}

func (n *network) finish() {
	for len(n.runnable()) > 0 {
		n.stepAll([]int64{4, 3, 2, 1, 0})
	}
}

func (n *network) tape() []impl.Rec {
	var tape []impl.Rec
	for i, c := range n.cmds {
		stamp := int64(i + 1)
		part := n.partOf(stamp)
		if validCmd(c) && slices.Contains([]int64{impl.CkMass, impl.CkBlock, impl.CkFree}, c.Kind) {
			part = append(part, withStamp([]impl.Rec{done(c, len(part))}, stamp)...)
		}
		tape = append(tape, part...)
	}
	return tape
}

// partOf looks for the records of each symbol in turn.
func (n *network) partOf(stamp int64) []impl.Rec {
	var out []impl.Rec
	for _, x := range n.nodes {
		for _, g := range x.out {
			if g.Stamp == stamp {
				out = append(out, g.Recs...)
			}
		}
	}
	var part []impl.Rec
	for sym := range int64(256) {
		for _, r := range out {
			if r.Sym == sym {
				part = append(part, r)
			}
		}
	}
	return part
}

func validFabric(f impl.Fabric) bool {
	ok := len(f.Cmds) <= 60 && len(f.Plan) <= 20 && len(f.Owner) == 4 && len(f.Shards) >= 1 && len(f.Shards) <= 4
	for _, owner := range f.Owner {
		ok = ok && owner >= 0 && owner < int64(len(f.Shards))
	}
	for _, s := range f.Shards {
		ok = ok && impl.EngineOk(s.E) && len(s.Inbox) <= 60 && len(s.Out) <= 60
	}
	return ok && f.Next >= 0 && f.Next <= int64(len(f.Cmds))
}

func sameFrag(a impl.Frag, b impl.Frag) bool {
	return a.Stamp == b.Stamp && a.Shard == b.Shard && slices.Equal(a.Recs, b.Recs)
}

func sameShard(a impl.Shard, b impl.Shard) bool {
	return sameEngine(a.E, b.E) && slices.Equal(a.Inbox, b.Inbox) && slices.EqualFunc(a.Out, b.Out, sameFrag)
}

func sameFabric(a impl.Fabric, b impl.Fabric) bool {
	return slices.Equal(a.Cmds, b.Cmds) && slices.Equal(a.Plan, b.Plan) && a.Next == b.Next &&
		slices.Equal(a.Owner, b.Owner) && slices.EqualFunc(a.Shards, b.Shards, sameShard)
}

func isEmptyFabric(f impl.Fabric) bool {
	return sameFabric(f, impl.Fabric{})
}
