package ptrie

import (
	"testing"

	"speculum/api"
	"speculum/prefix"
)

// every is all nodes of a tree.
func (n *node[V]) every(out map[*node[V]]bool) map[*node[V]]bool {
	if n != nil {
		out[n] = true
		n.kids[0].every(out)
		n.kids[1].every(out)
	}
	return out
}

// shaped tells whether each node has what the next calls count on.
func (n *node[V]) shaped() bool {
	if n == nil {
		return true
	}
	if !prefix.Right(n.at) || !n.has && (n.kids[0] == nil || n.kids[1] == nil) {
		return false
	}
	for side, kid := range n.kids {
		if kid != nil && (kid.at.Len <= n.at.Len || !prefix.Covers(n.at, kid.at) || prefix.Bit(kid.at.Addr, n.at.Len) != side || !kid.shaped()) {
			return false
		}
	}
	return true
}

// P9.3: Nodes and Apart are held against the nodes themselves.
func TestNodesAsTheyAre(t *testing.T) {
	x := uint32(123456789)
	below := func(n int) int {
		x ^= x << 13
		x ^= x >> 17
		x ^= x << 5
		return int(x % uint32(n))
	}
	tries := []*Trie[int]{nil, New[int]()}
	for n := range 400 {
		p := prefix.Norm(uint32(below(64))<<26|uint32(below(4)), below(33))
		from, next := tries[len(tries)-1-below(min(len(tries), 3))], (*Trie[int])(nil)
		if below(3) > 0 {
			next, _ = from.Put(p, n)
		} else {
			next, _ = from.Del(p)
		}
		if !next.top().shaped() {
			t.Fatal(n, p)
		}
		tries = append(tries, next)
	}
	for _, a := range tries {
		nodes := a.top().every(map[*node[int]]bool{})
		if a.Nodes() != len(nodes) {
			t.Fatal(a.Nodes(), len(nodes))
		}
		for _, b := range []*Trie[int]{nil, tries[below(len(tries))], tries[below(len(tries))], tries[len(tries)-1], a} {
			others, want := b.top().every(map[*node[int]]bool{}), 0
			for n := range nodes {
				if !others[n] {
					want++
				}
			}
			if got := a.Apart(b); got != want {
				t.Fatal(got, want)
			}
		}
	}
}

// A value that is no longer there is kept by no node.
func TestNoNodeKeepsWhatWent(t *testing.T) {
	one, two := api.Prefix{Addr: 10 << 24, Len: 8}, api.Prefix{Addr: 11 << 24, Len: 8}
	x, _ := New[int]().Put(one, 5)
	x, _ = x.Put(two, 6)
	x, _ = x.Put(prefix.Common(one, two), 7)
	x, _ = x.Del(prefix.Common(one, two))
	if x.root.has || x.root.value != 0 || x.Nodes() != 3 {
		t.Error(x.root)
	}
}
