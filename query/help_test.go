package query_test

import (
	"strings"
	"testing"

	"speculum/api"
	"speculum/prefix"
	"speculum/query"
)

// Communities, by their texts.
const (
	noExport    = 0xFFFFFF01
	noAdvertise = 0xFFFFFF02
	localAS     = 0xFFFFFF03
)

// most is the greatest number that a line has.
const most = 1<<32 - 1

func parse(s string) api.Prefix {
	p, ok := prefix.Parse(s)
	if !ok {
		panic(s)
	}
	return p
}

// shown is a request to show, of a mode and a prefix, and what else is told of it.
func shown(mode int, s string, change ...func(*api.Query)) api.Query {
	q := api.Query{Kind: api.QShow, Mode: mode, Prefix: parse(s)}
	for _, f := range change {
		f(&q)
	}
	return q
}

// all is a request to show all.
func all(change ...func(*api.Query)) api.Query { return shown(api.Longer, "0.0.0.0/0", change...) }

func in(n int) func(*api.Query)          { return func(q *api.Query) { q.Table, q.Peer = api.TIn, n } }
func out(n int) func(*api.Query)         { return func(q *api.Query) { q.Table, q.Peer = api.TOut, n } }
func path(s string) func(*api.Query)     { return func(q *api.Query) { q.Regex = s } }
func comms(l ...uint32) func(*api.Query) { return func(q *api.Query) { q.Comms = l } }
func next(n int) api.Query               { return api.Query{Kind: api.QNext, Cursor: n} }
func shut(n int) api.Query               { return api.Query{Kind: api.QClose, Cursor: n} }
func soft(n int, out bool) api.Query     { return api.Query{Kind: api.QSoft, Peer: n, Out: out} }

var stop, stat = api.Query{Kind: api.QStop}, api.Query{Kind: api.QStat}

// is holds what a line is parsed to against a request.
func is(t *testing.T, line string, want api.Query) {
	t.Helper()
	if q, e := query.Parse(line); e != api.OK || !query.Same(q, want) {
		t.Errorf("%q: %+v, %d; not %+v", line, q, e, want)
	}
}

// none holds that a line is none, and that beside the error nothing is told.
func none(t *testing.T, want api.Errno, lines ...string) {
	t.Helper()
	for _, line := range lines {
		if q, e := query.Parse(line); e != want || !query.Same(q, api.Query{}) {
			t.Errorf("%q: %+v, %d; not %d", line, q, e, want)
		}
	}
}

// long is a pattern of so many bytes.
func long(n int) string { return strings.Repeat("1", n%2) + strings.Repeat(". ", n/2) }

// chance is numbers that come the same each time.
type chance uint32

func (x *chance) below(n int) int {
	*x ^= *x << 13
	*x ^= *x >> 17
	*x ^= *x << 5
	return int(uint32(*x) % uint32(n))
}

func pick[T any](x *chance, l ...T) T { return l[x.below(len(l))] }
