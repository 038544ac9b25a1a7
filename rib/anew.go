package rib

import (
	"slices"

	"speculum/api"
	"speculum/attrs"
	"speculum/export"
	"speculum/prefix"
	"speculum/ptrie"
	"speculum/rank"
)

// allTaken is all prefixes of which something is taken.
func (r *Rib) allTaken() []api.Prefix { return r.taken.Keys(api.Prefix{}) }

// beside is a rib in which a peer stands otherwise, with tables as they were.
func (r *Rib) beside(k int, n neighbour) *Rib {
	next := &Rib{side: r.side, peers: slices.Clone(r.peers), taken: r.taken}
	next.peers[k] = n
	return next
}

// with is a rib in which a peer stands otherwise, and what is told otherwise by it. Just of the prefixes that it told
// something else may be taken then, and just of these, and of those that are sent, something else may go out.
func (r *Rib) with(k int, n neighbour, told, sent []api.Prefix) (*Rib, Change) {
	next := r.beside(k, n)
	c := Change{Loc: next.take(told)}
	for i := range next.peers {
		l := c.Loc
		if i == k {
			l = both(c.Loc, sent)
		}
		c.Outs = append(c.Outs, next.send(i, l))
	}
	return next, c
}

// both is the prefixes of two lists, in order, each once.
func both(a, b []api.Prefix) []api.Prefix {
	l := slices.Concat(a, b)
	slices.SortFunc(l, prefix.Compare)
	return slices.Compact(l)
}

// take takes anew of some prefixes, and tells of which ones that is something else. Like send, it is called ahead of
// anybody's seeing the rib.
func (r *Rib) take(l []api.Prefix) []api.Prefix {
	best := r.best(l)
	now := func(p api.Prefix) (api.Cand, bool) {
		c, ok := best[p]
		return c, ok
	}
	taken, changed := renewed(r.taken, l, now, sameCand)
	r.taken = taken
	return changed
}

// sameCand tells whether two are the same route. Of one peer all else that stands beside it is the same as long as it is up.
func sameCand(a, b api.Cand) bool { return a.Peer == b.Peer && attrs.Same(a.Attrs, b.Attrs) }

// best is what is taken of each of some prefixes, if something is.
func (r *Rib) best(l []api.Prefix) map[api.Prefix]api.Cand {
	may := map[api.Prefix][]api.Cand{}
	for k, n := range r.peers {
		offer := func(p api.Prefix, told api.Attrs) {
			if a, ok := export.In(r.side, n.setup, p, told); ok {
				may[p] = append(may[p], export.Cand(r.side, k, n.setup, n.id, a))
			}
		}
		n.each(l, offer)
	}
	best := map[api.Prefix]api.Cand{}
	for p, cands := range may {
		best[p] = cands[rank.Best(cands)]
	}
	return best
}

// each hands over those of some prefixes that a peer told.
func (n *neighbour) each(l []api.Prefix, over func(api.Prefix, api.Attrs)) {
	for _, p := range l {
		if a, ok := n.came.Get(p); ok {
			over(p, a)
		}
	}
}

// send makes anew what goes out to a peer of some prefixes, and tells of which ones that is something else.
func (r *Rib) send(k int, l []api.Prefix) []api.Prefix {
	n := &r.peers[k]
	now := func(p api.Prefix) (api.Attrs, bool) {
		c, ok := r.taken.Get(p)
		if !ok || !n.up {
			return api.Attrs{}, false
		}
		return export.Out(r.side, n.setup, k, p, c)
	}
	goes, changed := renewed(n.goes, l, now, attrs.Same)
	n.goes = goes
	return changed
}

// renewed is a trie that has at some prefixes what stands there now, and at which ones that is something else than before.
func renewed[V any](t *ptrie.Trie[V], l []api.Prefix, now func(api.Prefix) (V, bool), same func(a, b V) bool) (*ptrie.Trie[V], []api.Prefix) {
	var changed []api.Prefix
	for _, p := range l {
		was, had := t.Get(p)
		is, has := now(p)
		switch {
		case had == has && (!has || same(was, is)):
			continue
		case has:
			t, _ = t.Put(p, is)
		default:
			t, _ = t.Del(p)
		}
		changed = append(changed, p)
	}
	return t, changed
}
