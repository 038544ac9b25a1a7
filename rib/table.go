package rib

import (
	"speculum/api"
	"speculum/ptrie"
)

// table is what is asked for entries.
type table interface {
	get(p api.Prefix) (api.Entry, bool)
	next(in, after api.Prefix, first bool) (api.Entry, bool)
	covering(p api.Prefix) []api.Entry
	all() []api.Entry
}

// trieTable is a table of which a trie holds what its entries are made of.
type trieTable[V any] struct {
	trie  *ptrie.Trie[V]
	entry func(p api.Prefix, v V) api.Entry
}

// table is one of the tables. One that there is not, and one of a peer that there is not, has no entries.
func (r *Rib) table(which, k int) table {
	n, _ := r.peer(k)
	ofPeer := func(p api.Prefix, a api.Attrs) api.Entry { return api.Entry{Prefix: p, From: k, Attrs: a} }
	switch which {
	case api.TLoc:
		return trieTable[api.Cand]{r.loc(), ofCand}
	case api.TIn:
		return trieTable[api.Attrs]{n.came.Table(), ofPeer}
	case api.TOut:
		return trieTable[api.Attrs]{n.goes, ofPeer}
	}
	return trieTable[api.Attrs]{}
}

// loc is what is taken.
func (r *Rib) loc() *ptrie.Trie[api.Cand] {
	if r == nil {
		return nil
	}
	return r.taken
}

func ofCand(p api.Prefix, c api.Cand) api.Entry {
	return api.Entry{Prefix: p, From: c.Peer, Attrs: c.Attrs}
}

func (t trieTable[V]) get(p api.Prefix) (api.Entry, bool) {
	v, ok := t.trie.Get(p)
	return t.told(p, v, ok)
}

func (t trieTable[V]) next(in, after api.Prefix, first bool) (api.Entry, bool) {
	return t.told(t.trie.Next(in, after, first))
}

func (t trieTable[V]) covering(p api.Prefix) []api.Entry { return t.entries(t.trie.Covering(p)) }

func (t trieTable[V]) all() []api.Entry { return t.entries(t.trie.Keys(api.Prefix{})) }

// told is an entry, if there is one.
func (t trieTable[V]) told(p api.Prefix, v V, ok bool) (api.Entry, bool) {
	if !ok {
		return api.Entry{}, false
	}
	return t.entry(p, v), true
}

// entries is those of prefixes that are there.
func (t trieTable[V]) entries(l []api.Prefix) []api.Entry {
	var out []api.Entry
	for _, p := range l {
		v, _ := t.trie.Get(p)
		out = append(out, t.entry(p, v))
	}
	return out
}

// Get is what a table says of a prefix.
func (r *Rib) Get(table, k int, p api.Prefix) (api.Entry, bool) { return r.table(table, k).get(p) }

// Next is the first entry within a prefix, or the first behind another one.
func (r *Rib) Next(table, k int, in, after api.Prefix, first bool) (api.Entry, bool) {
	return r.table(table, k).next(in, after, first)
}

// Covering is the entries whose prefixes cover one.
func (r *Rib) Covering(table, k int, p api.Prefix) []api.Entry { return r.table(table, k).covering(p) }

// All is all entries of a table.
func (r *Rib) All(table, k int) []api.Entry { return r.table(table, k).all() }
