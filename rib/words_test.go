package rib_test

import (
	"maps"
	"slices"
	"testing"

	"speculum/api"
	"speculum/export"
	"speculum/policy"
	"speculum/prefix"
	"speculum/rank"
	"speculum/rib"
)

// The words of chapter 18, without any sharing: each table is made anew of all that is known.

type place struct{ table, peer int }

type entries map[api.Prefix]api.Entry

// known is a peer as the words have it.
type known struct {
	setup api.Peer
	up    bool
	id    uint32
	came  map[api.Prefix]api.Attrs
	// waits has rules by the way they are for.
	waits map[bool][]api.Rule
}

// moment is a rib, and what it has to be.
type moment struct {
	r     *rib.Rib
	peers []known
}

func begun(peers []api.Peer) moment {
	m := moment{r: rib.New(us, peers)}
	for _, p := range peers[:min(len(peers), 6)] {
		m.peers = append(m.peers, known{setup: p})
	}
	return m
}

// with is the peers, of which one is known otherwise.
func (m moment) with(k int, change func(x *known)) []known {
	l := slices.Clone(m.peers)
	l[k].came, l[k].waits = maps.Clone(l[k].came), maps.Clone(l[k].waits)
	change(&l[k])
	return l
}

// updated is a peer behind an update; and whether a route was refused.
func updated(x *known, u api.Update) bool {
	if x.came == nil {
		x.came = map[api.Prefix]api.Attrs{}
	}
	for _, p := range u.Gone {
		delete(x.came, p)
	}
	for _, p := range u.News {
		if !prefix.Right(p) {
			continue
		}
		if _, was := x.came[p]; !was && len(x.came) >= x.setup.Limit {
			return true
		}
		x.came[p] = u.Attrs
	}
	return false
}

// tables is P18.1.
func tables(peers []known) map[place]entries {
	out := map[place]entries{}
	cands := map[api.Prefix][]api.Cand{}
	for k, x := range peers {
		in := entries{}
		for p, a := range x.came {
			in[p] = api.Entry{Prefix: p, From: k, Attrs: a}
			if b, ok := export.In(us, x.setup, p, a); ok {
				cands[p] = append(cands[p], export.Cand(us, k, x.setup, x.id, b))
			}
		}
		out[place{api.TIn, k}] = in
	}
	loc := entries{}
	for p, l := range cands {
		c := l[rank.Best(l)]
		loc[p] = api.Entry{Prefix: p, From: c.Peer, Attrs: c.Attrs}
	}
	out[place{api.TLoc, 0}] = loc
	for k, x := range peers {
		goes := entries{}
		for p, l := range cands {
			if a, ok := export.Out(us, x.setup, k, p, l[rank.Best(l)]); ok && x.up {
				goes[p] = api.Entry{Prefix: p, From: k, Attrs: a}
			}
		}
		out[place{api.TOut, k}] = goes
	}
	return out
}

func (x entries) keys() []api.Prefix { return slices.SortedFunc(maps.Keys(x), prefix.Compare) }

// otherwise is the prefixes of which two tables tell something else, in order.
func otherwise(a, b entries) []api.Prefix {
	all := maps.Clone(a)
	maps.Copy(all, b)
	return slices.DeleteFunc(all.keys(), func(p api.Prefix) bool {
		x, was := a[p]
		y, is := b[p]
		return was == is && sameEntry(x, y)
	})
}

// check holds a table against what it has to be, asked by each call.
func (x entries) check(t *testing.T, r *rib.Rib, at place) {
	t.Helper()
	keys := x.keys()
	all := r.All(at.table, at.peer)
	if len(all) != len(keys) {
		t.Fatalf("%v: %+v, not %+v", at, all, x)
	}
	for i, p := range keys {
		if !sameEntry(all[i], x[p]) {
			t.Fatalf("%v: %+v, not %+v", at, all[i], x[p])
		}
	}
	for _, p := range someOf() {
		got, ok := r.Get(at.table, at.peer, p)
		if want, is := x[p]; ok != is || !sameEntry(got, want) {
			t.Fatalf("%v: at %v: %+v, not %+v", at, p, got, want)
		}
		var over []api.Prefix
		for _, q := range keys {
			if prefix.Covers(q, p) {
				over = append(over, q)
			}
		}
		// In the order of prefixes, of two that cover one the shorter one comes first, too.
		if !slices.EqualFunc(r.Covering(at.table, at.peer, p), over, func(e api.Entry, q api.Prefix) bool { return sameEntry(e, x[q]) }) {
			t.Fatalf("%v: over %v: %+v", at, p, r.Covering(at.table, at.peer, p))
		}
		for _, in := range []api.Prefix{whole, prefix.Norm(p.Addr, p.Len-1)} {
			x.checkNext(t, r, at, in, p, keys)
		}
	}
}

func (x entries) checkNext(t *testing.T, r *rib.Rib, at place, in, after api.Prefix, keys []api.Prefix) {
	t.Helper()
	for _, first := range []bool{true, false} {
		got, ok := r.Next(at.table, at.peer, in, after, first)
		i := slices.IndexFunc(keys, func(p api.Prefix) bool { return prefix.Covers(in, p) && (first || prefix.Compare(p, after) > 0) })
		if ok != (i >= 0) || ok && !sameEntry(got, x[keys[i]]) || !ok && !sameEntry(got, api.Entry{}) {
			t.Fatalf("%v: in %v behind %v: %+v", at, in, after, got)
		}
	}
}

// check holds all that a rib tells against what it has to be.
func (m moment) check(t *testing.T, want map[place]entries) {
	t.Helper()
	for at, x := range want {
		x.check(t, m.r, at)
	}
	for k, x := range m.peers {
		if m.r.IsUp(k) != x.up {
			t.Fatal(k, "is up")
		}
	}
}

// someOf is the prefixes of which routes are told by chance, close to one another.
func someOf() []api.Prefix {
	return parsed("0.0.0.0/0", "10.0.0.0/8", "10.0.0.0/9", "10.128.0.0/9", "10.0.0.0/10", "10.1.0.0/16", "10.1.0.0/17", "11.0.0.0/8", "192.0.0.0/2", "255.255.255.255/32")
}

func (x *chance) prefixes(n int) []api.Prefix {
	var out []api.Prefix
	for range n {
		p := pick(x, someOf()...)
		if x.below(12) == 0 {
			p = pick(x, wrong()...)
		}
		out = append(out, p)
	}
	return out
}

// attrs is one of few, so that many are alike.
func (x *chance) attrs() api.Attrs {
	a := said(pick(x, "", "7", "7 8", "7 9", "8", "8 7", "65001", "7 {8,9}", "1 2 3"), pref(pick(x, -1, -1, -1, 100, 99, 200, 1<<32)), med(pick(x, -1, -1, 5, 6)))
	a.Comms = pick(x, nil, nil, nil, []uint32{1}, []uint32{0xFFFFFF01}, []uint32{noAdvertise, 2}, []uint32{0xFFFFFF03})
	if x.below(10) == 0 {
		a.Path = []api.Segment{{Kind: x.below(4), AS: make([]uint32, x.below(3))}, {}}
	}
	if x.below(6) == 0 {
		a.Origin = pick(x, 1, 2, 9)
	}
	return a
}

func (x *chance) rules() []api.Rule {
	one := func() api.Rule { return permit(setPref(pick(x, 50, 100, 200)), setMed(pick(x, -1, 5))) }
	return pick(x, nil, nil, []api.Rule{deny}, []api.Rule{one()}, []api.Rule{denyOf("10.0.0.0/9"), one()}, []api.Rule{permitOf("10.1.0.0/16", setPref(300)), permit()},
		[]api.Rule{{Conds: []api.Cond{{Kind: api.CLonger, Num: 1}}, Verdict: api.Deny}, permit()}, []api.Rule{{Deeds: []api.Deed{setMed(1)}, Verdict: api.Go}, permitOf("11.0.0.0/8")}, []api.Rule{{}})
}

func (x *chance) peers(n int) []api.Peer {
	var out []api.Peer
	for range n {
		out = append(out, api.Peer{AS: pick[uint32](x, us.AS, 65002, 65003), Addr: uint32(x.below(2)), Limit: pick(x, 0, 2, 5, 9, 9), In: x.rules(), Out: x.rules()})
	}
	return out
}

// step does one call by chance; it tells the moment behind it, and what it told as changed.
func (m moment) step(t *testing.T, x *chance, met map[string]int) (moment, rib.Change) {
	t.Helper()
	k := x.below(len(m.peers)+2) - 1
	none := k < 0 || k >= len(m.peers)
	up := !none && m.peers[k].up
	out := x.below(2) == 0
	r, c, want, peers := m.r, rib.Change{}, api.OK, m.peers
	var e api.Errno
	fits := func(name string, may bool, change func(p *known)) {
		switch {
		case none:
			want, name = api.EPEER, "no peer"
		case !may:
			want, name = api.ESTATE, "not so, "+name
		default:
			peers = m.with(k, change)
		}
		met[name]++
	}
	switch x.below(12) {
	case 0, 1:
		id := uint32(x.below(3))
		r, c, e = m.r.Up(k, id)
		fits("up", !up, func(p *known) { p.up, p.id = true, id })
	case 2:
		r, c, e = m.r.Down(k)
		fits("down", up, func(p *known) { p.up, p.came = false, nil })
	case 3:
		l := x.rules()
		r, e = m.r.Rules(k, out, l)
		if none || policy.Right(l) {
			fits("rules", true, func(p *known) {
				if p.waits == nil {
					p.waits = map[bool][]api.Rule{}
				}
				p.waits[out] = l
			})
		} else {
			want = api.EARG
			met["wrong rules"]++
		}
	case 4:
		r, c, e = m.r.Soft(k, out)
		fits("soft", true, func(p *known) {
			l, told := p.waits[out]
			switch {
			case told && out:
				p.setup.Out = l
			case told:
				p.setup.In = l
			}
		})
	default:
		u := api.Update{Gone: x.prefixes(x.below(3)), Attrs: x.attrs(), News: x.prefixes(x.below(4))}
		var got, over bool
		r, c, got, e = m.r.Update(k, u)
		fits("update", up, func(p *known) { over = updated(p, u) })
		if got != over {
			t.Fatal(u, got)
		}
		if over {
			met["refused"]++
		}
	}
	if e != want {
		t.Fatalf("%v, not %v", e, want)
	}
	if e != api.OK {
		return m, c
	}
	return moment{r, peers}, c
}

func TestAsTheWordsSay(t *testing.T) {
	x := chance(2463534242)
	met := map[string]int{}
	for range 60 {
		moments := []moment{begun(x.peers(1 + x.below(7)))}
		for range 120 {
			// Not only the last one goes on.
			m := moments[len(moments)-1-x.below(min(len(moments), 1+x.below(3)))]
			before := tables(m.peers)
			next, c := m.step(t, &x, met)
			after := tables(next.peers)
			next.check(t, after)
			if next.r == m.r {
				continue
			}
			if l := otherwise(before[place{}], after[place{}]); !slices.Equal(c.Loc, l) {
				t.Fatalf("changed: %v, not %v", c.Loc, l)
			}
			for k := range next.peers {
				l := otherwise(before[place{api.TOut, k}], after[place{api.TOut, k}])
				if len(l) > 0 {
					met["goes out otherwise"]++
				}
				// Rules alone tell of no change.
				if len(l) > 0 || k < len(c.Outs) {
					if !slices.Equal(c.Outs[k], l) {
						t.Fatalf("changed to %d: %v, not %v", k, c.Outs[k], l)
					}
				}
			}
			moments = append(moments, next)
		}
		for _, m := range moments {
			m.check(t, tables(m.peers))
		}
	}
	for _, name := range []string{"up", "down", "rules", "soft", "update", "refused", "wrong rules", "no peer", "not so, up", "not so, down", "not so, update", "goes out otherwise"} {
		if met[name] < 30 {
			t.Error(name, met[name])
		}
	}
}
