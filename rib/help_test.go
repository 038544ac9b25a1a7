package rib_test

import (
	"math"
	"slices"
	"testing"

	"speculum/api"
	"speculum/aspath"
	"speculum/attrs"
	"speculum/prefix"
	"speculum/rib"
)

const noAdvertise = 0xFFFFFF02

// us is the side of all tests.
var us = api.Local{AS: 65001, Id: 1, Addr: 10<<24 | 1, Hold: 90}

var whole = api.Prefix{}

func parse(s string) api.Prefix {
	p, ok := prefix.Parse(s)
	if !ok {
		panic(s)
	}
	return p
}

func parsed(l ...string) []api.Prefix {
	var out []api.Prefix
	for _, s := range l {
		out = append(out, parse(s))
	}
	return out
}

// said is attributes with a path, and what else is told of them.
func said(path string, change ...func(*api.Attrs)) api.Attrs {
	a := attrs.Zero()
	l, ok := aspath.Parse(path)
	if !ok {
		panic(path)
	}
	a.Path, a.Next = l, 40<<24
	for _, f := range change {
		f(&a)
	}
	return a
}

func pref(n int) func(*api.Attrs)        { return func(a *api.Attrs) { a.Pref = n } }
func med(n int) func(*api.Attrs)         { return func(a *api.Attrs) { a.Med = n } }
func origin(n int) func(*api.Attrs)      { return func(a *api.Attrs) { a.Origin = n } }
func next(n uint32) func(*api.Attrs)     { return func(a *api.Attrs) { a.Next = n } }
func comms(l ...uint32) func(*api.Attrs) { return func(a *api.Attrs) { a.Comms = l } }

func news(a api.Attrs, l ...string) api.Update { return api.Update{Attrs: a, News: parsed(l...)} }
func gone(l ...string) api.Update              { return api.Update{Gone: parsed(l...)} }

// outer is a peer of another system, inner one of this side's; both have room for many routes.
func outer(as uint32, change ...func(*api.Peer)) api.Peer {
	p := api.Peer{AS: as, Addr: as, Limit: 100}
	for _, f := range change {
		f(&p)
	}
	return p
}

func inner(addr uint32, change ...func(*api.Peer)) api.Peer {
	p := outer(us.AS, change...)
	p.Addr = addr
	return p
}

func limit(n int) func(*api.Peer)        { return func(p *api.Peer) { p.Limit = n } }
func ins(l ...api.Rule) func(*api.Peer)  { return func(p *api.Peer) { p.In = l } }
func outs(l ...api.Rule) func(*api.Peer) { return func(p *api.Peer) { p.Out = l } }
func permit(d ...api.Deed) api.Rule      { return api.Rule{Deeds: d, Verdict: api.Permit} }
func setPref(n int) api.Deed             { return api.Deed{Kind: api.APref, Num: n} }
func setMed(n int) api.Deed              { return api.Deed{Kind: api.AMed, Num: n} }
func denyOf(s string) api.Rule           { return api.Rule{Conds: []api.Cond{in(s)}, Verdict: api.Deny} }
func permitOf(s string, d ...api.Deed) api.Rule {
	return api.Rule{Conds: []api.Cond{in(s)}, Deeds: d, Verdict: api.Permit}
}

// in is the condition that a prefix is within one.
func in(s string) api.Cond {
	p := parse(s)
	return api.Cond{Kind: api.CPrefix, Range: []api.Range{{Prefix: p, Min: p.Len, Max: 32}}}
}

var deny = api.Rule{Verdict: api.Deny}

// wrongRules is rules that may not be.
func wrongRules() map[string][]api.Rule {
	return map[string][]api.Rule{
		"no verdict": {{}}, "a verdict that is none": {{Verdict: 4}}, "17 rules": slices.Repeat([]api.Rule{deny}, 17),
		"a wrong deed": {permit(setPref(-1))}, "a wrong one behind a right one": {deny, {Verdict: -1}},
		"a wrong condition": {{Conds: []api.Cond{{Kind: api.CRegex, Text: "("}}, Verdict: api.Permit}},
	}
}

// wrong is prefixes that are not right.
func wrong() []api.Prefix {
	return []api.Prefix{{Addr: 1, Len: 0}, {Addr: 10<<24 | 1, Len: 8}, {Len: -1}, {Len: 33}, {Len: math.MinInt}, {Addr: math.MaxUint32, Len: 31}}
}

// world is a rib on which one call is done behind the other.
type world struct {
	t *testing.T
	r *rib.Rib
	// c is what the last call told as changed.
	c rib.Change
}

func begin(t *testing.T, peers ...api.Peer) *world {
	return &world{t: t, r: rib.New(us, peers)}
}

func (w *world) do(r *rib.Rib, c rib.Change, e api.Errno) *world {
	w.t.Helper()
	if e != api.OK || r == nil {
		w.t.Fatal(e)
	}
	if len(c.Outs) != r.Peers() {
		w.t.Fatalf("of %d peers it is told what goes out otherwise", len(c.Outs))
	}
	w.r, w.c = r, c
	return w
}

func (w *world) up(k int) *world {
	w.t.Helper()
	return w.upAs(k, uint32(k+1))
}

func (w *world) upAs(k int, id uint32) *world {
	w.t.Helper()
	return w.do(w.r.Up(k, id))
}

func (w *world) down(k int) *world {
	w.t.Helper()
	return w.do(w.r.Down(k))
}

func (w *world) tell(k int, l ...api.Update) *world {
	w.t.Helper()
	for _, u := range l {
		r, c, refused, e := w.r.Update(k, u)
		if refused {
			w.t.Error("refused")
		}
		w.do(r, c, e)
	}
	return w
}

func (w *world) rules(k int, out bool, l ...api.Rule) *world {
	w.t.Helper()
	r, e := w.r.Rules(k, out, l)
	if e != api.OK || r == nil {
		w.t.Fatal(e)
	}
	w.r, w.c = r, rib.Change{}
	return w
}

func (w *world) soft(k int, out bool) *world {
	w.t.Helper()
	return w.do(w.r.Soft(k, out))
}

// changed holds what the last call told as changed against texts: of what is taken, and of what goes out to each.
func (w *world) changed(loc []api.Prefix, outs ...[]api.Prefix) *world {
	w.t.Helper()
	if !slices.Equal(w.c.Loc, loc) || !slices.EqualFunc(w.c.Outs, outs, slices.Equal) {
		w.t.Errorf("changed: %v and %v", w.c.Loc, w.c.Outs)
	}
	return w
}

func entry(from int, s string, a api.Attrs) api.Entry {
	return api.Entry{Prefix: parse(s), From: from, Attrs: a}
}

func sameEntry(a, b api.Entry) bool {
	return a.Prefix == b.Prefix && a.From == b.From && attrs.Same(a.Attrs, b.Attrs)
}

// has holds a table against entries.
func (w *world) has(table, k int, want ...api.Entry) *world {
	w.t.Helper()
	if got := w.r.All(table, k); !slices.EqualFunc(got, want, sameEntry) {
		w.t.Errorf("table %d of %d: %+v, not %+v", table, k, got, want)
	}
	return w
}

// taken holds what is taken against entries.
func (w *world) taken(want ...api.Entry) *world {
	w.t.Helper()
	return w.has(api.TLoc, 0, want...)
}

// chance is numbers that come the same each time.
type chance uint32

func (x *chance) below(n int) int {
	*x ^= *x << 13
	*x ^= *x >> 17
	*x ^= *x << 5
	return int(uint32(*x) % uint32(n))
}

func pick[T any](x *chance, l ...T) T { return l[x.below(len(l))] }
