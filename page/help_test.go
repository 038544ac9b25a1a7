package page_test

import (
	"math"
	"slices"
	"testing"

	"speculum/api"
	"speculum/aspath"
	"speculum/attrs"
	"speculum/page"
	"speculum/prefix"
	"speculum/rib"
)

// Communities that have a name.
const (
	noExport    = 0xFFFFFF01
	noAdvertise = 0xFFFFFF02
	localAS     = 0xFFFFFF03
)

// us is the side of all tests.
var us = api.Local{AS: 65001, Id: 1, Addr: 10<<24 | 1, Hold: 90}

var whole = api.Prefix{}

func parse(s string) api.Prefix {
	p, ok := prefix.Parse(s)
	if !ok {
		panic(s)
	}
	return p
}

func parsed(l ...string) []api.Prefix {
	var out []api.Prefix
	for _, s := range l {
		out = append(out, parse(s))
	}
	return out
}

// said is attributes with a path, and what else is told of them.
func said(path string, change ...func(*api.Attrs)) api.Attrs {
	a := attrs.Zero()
	l, ok := aspath.Parse(path)
	if !ok {
		panic(path)
	}
	a.Path, a.Next = l, 10<<24|1
	for _, f := range change {
		f(&a)
	}
	return a
}

func pref(n int) func(*api.Attrs)                { return func(a *api.Attrs) { a.Pref = n } }
func med(n int) func(*api.Attrs)                 { return func(a *api.Attrs) { a.Med = n } }
func origin(n int) func(*api.Attrs)              { return func(a *api.Attrs) { a.Origin = n } }
func next(n uint32) func(*api.Attrs)             { return func(a *api.Attrs) { a.Next = n } }
func comms(l ...uint32) func(*api.Attrs)         { return func(a *api.Attrs) { a.Comms = l } }
func segments(l ...api.Segment) func(*api.Attrs) { return func(a *api.Attrs) { a.Path = l } }

func entry(from int, s string, a api.Attrs) api.Entry {
	return api.Entry{Prefix: parse(s), From: from, Attrs: a}
}

// asks is a request to show, of a mode and a prefix, and what else is told of it.
func asks(mode int, s string, change ...func(*api.Query)) api.Query {
	q := api.Query{Kind: api.QShow, Mode: mode, Prefix: parse(s)}
	for _, f := range change {
		f(&q)
	}
	return q
}

func all(change ...func(*api.Query)) api.Query { return asks(api.Longer, "0.0.0.0/0", change...) }
func in(table, peer int) func(*api.Query) {
	return func(q *api.Query) { q.Table, q.Peer = table, peer }
}
func path(s string) func(*api.Query)    { return func(q *api.Query) { q.Regex = s } }
func comm(l ...uint32) func(*api.Query) { return func(q *api.Query) { q.Comms = l } }

// wrong is prefixes that are not right.
func wrong() []api.Prefix {
	return []api.Prefix{{Addr: 1, Len: 0}, {Addr: 10<<24 | 1, Len: 8}, {Len: -1}, {Len: 33}, {Len: math.MinInt}, {Len: math.MaxInt}, {Addr: math.MaxUint32, Len: 31}, {Addr: 11 << 24, Len: -5}}
}

// ribOf is a rib in which peers, all of other systems, are up, and told updates. Peers without updates are not up.
func ribOf(t *testing.T, updates ...[]api.Update) *rib.Rib {
	t.Helper()
	var peers []api.Peer
	for i := range updates {
		peers = append(peers, api.Peer{AS: uint32(65002 + i), Addr: uint32(i + 1), Limit: 1000})
	}
	r := rib.New(us, peers)
	must := func(next *rib.Rib, e api.Errno) {
		t.Helper()
		if e != api.OK {
			t.Fatal(e)
		}
		r = next
	}
	for k, l := range updates {
		if len(l) == 0 {
			continue
		}
		up, _, e := r.Up(k, uint32(k+1))
		must(up, e)
		for _, u := range l {
			told, _, _, e := r.Update(k, u)
			must(told, e)
		}
	}
	return r
}

func news(a api.Attrs, l ...string) api.Update { return api.Update{Attrs: a, News: parsed(l...)} }

// nest is a rib whose peer 0 told prefixes within one another, and others; its peer 1 one of them better, and one of
// its own; peer 2 is not up.
func nest(t *testing.T) *rib.Rib {
	t.Helper()
	first := []api.Update{
		news(said("65002 7"), "0.0.0.0/0", "10.0.0.0/8", "10.1.0.0/16", "10.1.2.0/24", "10.1.2.3/32"),
		news(said("65002 8", comms(1, 2)), "10.1.0.0/24", "10.2.0.0/16", "11.0.0.0/8", "9.0.0.0/8"),
		news(said("65002 8", comms(2)), "128.0.0.0/1", "10.0.0.0/9", "255.255.255.255/32"),
	}
	second := []api.Update{news(said("65003"), "10.1.0.0/16"), news(said("65003 8", comms(1)), "12.0.0.0/8")}
	return ribOf(t, first, second, nil)
}

// at is prefixes of lines, as texts.
func at(lines []string) []string {
	var out []string
	for _, s := range lines {
		for i, c := range s {
			if c == ' ' {
				s = s[:i]
				break
			}
		}
		out = append(out, s)
	}
	return out
}

func samePage(a, b page.Page) bool {
	return slices.Equal(a.Lines, b.Lines) && a.After == b.After && a.Visits == b.Visits && a.More == b.More
}

// chance is numbers that come the same each time.
type chance uint32

func (x *chance) below(n int) int {
	*x ^= *x << 13
	*x ^= *x >> 17
	*x ^= *x << 5
	return int(uint32(*x) % uint32(n))
}

func pick[T any](x *chance, l ...T) T { return l[x.below(len(l))] }
