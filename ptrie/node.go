package ptrie

import (
	"speculum/api"
	"speculum/prefix"
)

// longest is how long a prefix is that no other one lies within.
const longest = 32

// side tells on which side of a node a prefix within it lies.
func (n *node[V]) side(p api.Prefix) int {
	return prefix.Bit(p.Addr, n.at.Len)
}

// reach is the first node on the way to a prefix that is not shorter. Whether it is that prefix's, or lies within it, the
// caller asks.
func (n *node[V]) reach(p api.Prefix) *node[V] {
	for n != nil && n.at.Len < p.Len {
		n = n.kids[n.side(p)]
	}
	return n
}

// put is the tree with a leaf, which is new, so that it may still be changed here.
func (n *node[V]) put(leaf *node[V]) *node[V] {
	switch {
	case n == nil:
		return leaf
	case n.at == leaf.at:
		leaf.kids = n.kids
		return leaf
	case prefix.Covers(n.at, leaf.at):
		out := *n
		side := n.side(leaf.at)
		out.kids[side] = n.kids[side].put(leaf)
		return &out
	case prefix.Covers(leaf.at, n.at):
		leaf.kids[leaf.side(n.at)] = n
		return leaf
	}
	fork := &node[V]{at: prefix.Common(n.at, leaf.at)}
	fork.kids[fork.side(n.at)] = n
	fork.kids[fork.side(leaf.at)] = leaf
	return fork
}

// del is the tree without a prefix, which has a value there.
func (n *node[V]) del(p api.Prefix) *node[V] {
	if n.at == p {
		return (&node[V]{at: p, kids: n.kids}).needed()
	}
	out := *n
	side := n.side(p)
	out.kids[side] = n.kids[side].del(p)
	return out.needed()
}

// needed is the node, if it has a value, or two parts stand below it; else what stands below it.
func (n *node[V]) needed() *node[V] {
	switch {
	case n.has || n.kids[0] != nil && n.kids[1] != nil:
		return n
	case n.kids[0] != nil:
		return n.kids[0]
	}
	return n.kids[1]
}

// next is the first node with a value that comes behind a prefix.
func (n *node[V]) next(after api.Prefix) *node[V] {
	if n == nil || prefix.Compare(n.last(), after) <= 0 {
		return nil
	}
	if n.has && prefix.Compare(n.at, after) > 0 {
		return n
	}
	if kid := n.kids[0].next(after); kid != nil {
		return kid
	}
	return n.kids[1].next(after)
}

// last is the last prefix that may stand below a node: if it does not come behind another one, none there does.
func (n *node[V]) last() api.Prefix {
	return api.Prefix{Addr: n.at.Addr | ^prefix.Mask(n.at.Len), Len: longest}
}

// keys puts all prefixes with a value behind a list: a node's own one comes ahead of those below it.
func (n *node[V]) keys(l []api.Prefix) []api.Prefix {
	if n == nil {
		return l
	}
	if n.has {
		l = append(l, n.at)
	}
	return n.kids[1].keys(n.kids[0].keys(l))
}

// apart is how many nodes are none of another tree's. A node that both have stands on the same way in both, and has all
// that is below it in common.
func (n *node[V]) apart(u *node[V]) int {
	if n == nil {
		return 0
	}
	u = u.reach(n.at)
	if n == u {
		return 0
	}
	return 1 + n.kids[0].apart(u) + n.kids[1].apart(u)
}
