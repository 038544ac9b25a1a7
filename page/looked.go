package page

import (
	"iter"

	"speculum/api"
	"speculum/prefix"
	"speculum/rib"
)

// looked hands out the entries that a request has looked at, in order: those behind a prefix, or all.
func looked(r *rib.Rib, q api.Query, after api.Prefix, first bool) iter.Seq[api.Entry] {
	switch q.Mode {
	case api.Exact:
		return behind(exact(r, q), after, first)
	case api.Longer:
		return longer(r, q, after, first)
	case api.Shorter:
		return behind(r.Covering(q.Table, q.Peer, q.Prefix), after, first)
	}
	return func(func(api.Entry) bool) {}
}

// exact is the entry of the prefix that is asked for, if there is one.
func exact(r *rib.Rib, q api.Query) []api.Entry {
	x, ok := r.Get(q.Table, q.Peer, q.Prefix)
	if !ok {
		return nil
	}
	return []api.Entry{x}
}

// behind hands out those of a list that stand behind a prefix, or all.
func behind(l []api.Entry, after api.Prefix, first bool) iter.Seq[api.Entry] {
	return func(yield func(api.Entry) bool) {
		for _, x := range l {
			if (first || prefix.Compare(x.Prefix, after) > 0) && !yield(x) {
				return
			}
		}
	}
}

// longer takes an entry from the table when it is needed: there may be many more than a page has.
func longer(r *rib.Rib, q api.Query, after api.Prefix, first bool) iter.Seq[api.Entry] {
	return func(yield func(api.Entry) bool) {
		x, ok := r.Next(q.Table, q.Peer, q.Prefix, after, first)
		for ok && yield(x) {
			x, ok = r.Next(q.Table, q.Peer, q.Prefix, x.Prefix, false)
		}
	}
}
