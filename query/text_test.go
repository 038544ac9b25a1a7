package query_test

import (
	"fmt"
	"math"
	"slices"
	"strings"
	"testing"

	"speculum/api"
	"speculum/filter"
	"speculum/prefix"
	"speculum/query"
	"speculum/regex"
)

// P25.2

// says holds the line of a request against a text, and P25.3.
func says(t *testing.T, q api.Query, want string) {
	t.Helper()
	if got, ok := query.Text(q); !ok || got != want {
		t.Errorf("%+v: %q, %v; not %q", q, got, ok, want)
	}
	is(t, want, q)
}

// silent holds that there is no line of a request.
func silent(t *testing.T, l ...api.Query) {
	t.Helper()
	for _, q := range l {
		if got, ok := query.Text(q); ok || got != "" {
			t.Errorf("%+v: %q, %v", q, got, ok)
		}
	}
}

// lineOf is the line of a request that may be, by the words of P25.2.
func lineOf(q api.Query) string {
	way, modes := "in", []string{"", "exact", "longer", "shorter"}
	if q.Table == 2 || q.Out {
		way = "out"
	}
	switch q.Kind {
	case 2, 3:
		return fmt.Sprint([]string{2: "next ", "close "}[q.Kind], q.Cursor)
	case 4:
		return fmt.Sprint("soft ", way, " ", q.Peer)
	case 5, 6:
		return []string{5: "shutdown", "stat"}[q.Kind]
	}
	line := "show " + modes[q.Mode] + " " + prefix.Text(q.Prefix)
	if q.Table != 0 {
		line += fmt.Sprint(" ", way, " ", q.Peer)
	}
	if q.Regex != "" {
		line += ` path "` + q.Regex + `"`
	}
	for _, c := range q.Comms {
		line += " community " + filter.Comm(c)
	}
	return line
}

// again holds what Text tells of a request against the words of P25.2, and P25.3; it tells whether there is a line.
func again(t *testing.T, q api.Query) bool {
	t.Helper()
	if !right(q) || len(lineOf(q)) > 200 {
		silent(t, q)
		return false
	}
	says(t, q, lineOf(q))
	return true
}

func TestText(t *testing.T) {
	const ten = "10.0.0.0/8"
	says(t, shown(api.Exact, ten), "show exact 10.0.0.0/8")
	says(t, shown(api.Longer, ten), "show longer 10.0.0.0/8")
	says(t, shown(api.Shorter, ten), "show shorter 10.0.0.0/8")
	says(t, shown(api.Exact, "0.0.0.0/0"), "show exact 0.0.0.0/0")
	says(t, shown(api.Shorter, "0.0.0.0/0"), "show shorter 0.0.0.0/0")
	says(t, shown(api.Exact, "255.255.255.255/32"), "show exact 255.255.255.255/32")
	says(t, all(in(0)), "show longer 0.0.0.0/0 in 0")
	says(t, all(out(0)), "show longer 0.0.0.0/0 out 0")
	says(t, all(in(most)), "show longer 0.0.0.0/0 in 4294967295")
	says(t, shown(api.Exact, ten, out(12)), "show exact 10.0.0.0/8 out 12")
	says(t, all(path("^1 (2|3)*$")), `show longer 0.0.0.0/0 path "^1 (2|3)*$"`)
	says(t, all(path("  1_ ")), `show longer 0.0.0.0/0 path "  1_ "`)
	says(t, all(path(" ")), `show longer 0.0.0.0/0 path " "`)
	says(t, all(comms(noExport)), "show longer 0.0.0.0/0 community no-export")
	says(t, all(comms(0, 65537, noAdvertise, localAS)), "show longer 0.0.0.0/0 community 0:0 community 1:1 community no-advertise community local-as")
	says(t, all(comms(7, 7)), "show longer 0.0.0.0/0 community 0:7 community 0:7")
	says(t, shown(api.Longer, ten, path("^1"), comms(noExport)), `show longer 10.0.0.0/8 path "^1" community no-export`)
	says(t, shown(api.Shorter, ten, comms(2, 1), path("1|2"), out(3)), `show shorter 10.0.0.0/8 out 3 path "1|2" community 0:2 community 0:1`)
	says(t, next(0), "next 0")
	says(t, next(12), "next 12")
	says(t, next(most), "next 4294967295")
	says(t, shut(0), "close 0")
	says(t, shut(most), "close 4294967295")
	says(t, soft(0, false), "soft in 0")
	says(t, soft(0, true), "soft out 0")
	says(t, soft(5, false), "soft in 5")
	says(t, soft(most, true), "soft out 4294967295")
	says(t, stop, "shutdown")
	says(t, stat, "stat")
}

// All is the longer ones of all; the line tells these.
func TestTextOfAll(t *testing.T) {
	says(t, all(), "show longer 0.0.0.0/0")
	for _, line := range []string{"show all", " show   all ", `show all path ""`, "show longer 0.0.0.0/0"} {
		q, e := query.Parse(line)
		if e != api.OK {
			t.Error(line, e)
		}
		says(t, q, "show longer 0.0.0.0/0")
	}
	q, _ := query.Parse(`show all community no-export path "1" in 2`)
	says(t, q, `show longer 0.0.0.0/0 in 2 path "1" community no-export`)
	// Rule 3.
	says(t, all(comms()), "show longer 0.0.0.0/0")
	says(t, api.Query{Kind: api.QStat, Comms: []uint32{}}, "stat")
}

// odd is numbers that no line has.
var odd = []int{-1, math.MinInt, 1 << 32, math.MaxInt}

func TestRequestsWithoutALine(t *testing.T) {
	silent(t, api.Query{})
	for _, n := range append(odd, 0, 7, 8) {
		silent(t, api.Query{Kind: n}, api.Query{Kind: n, Mode: api.Exact}, api.Query{Kind: n, Cursor: 1})
	}
	for _, n := range append(odd, 0, 4) {
		silent(t, shown(n, "10.0.0.0/8"), shown(n, "0.0.0.0/0"), shown(n, "10.0.0.0/8", in(1), path("1"), comms(1)))
	}
	for _, n := range append(odd, 3) {
		silent(t, all(func(q *api.Query) { q.Table = n }), all(func(q *api.Query) { q.Table, q.Peer = n, 1 }))
	}
	for _, n := range odd {
		silent(t, all(in(n)), all(out(n)), next(n), shut(n), soft(n, false), soft(n, true))
	}
	for _, mode := range []int{api.Exact, api.Longer, api.Shorter} {
		for _, p := range []api.Prefix{{Addr: 1, Len: 0}, {Addr: 10<<24 | 1, Len: 8}, {Len: -1}, {Len: 33}, {Len: math.MinInt}, {Len: math.MaxInt}} {
			silent(t, api.Query{Kind: api.QShow, Mode: mode, Prefix: p}, api.Query{Kind: api.QShow, Mode: mode, Prefix: p, Table: 1}, api.Query{Kind: api.QShow, Mode: mode, Prefix: p, Regex: "1"}, api.Query{Kind: api.QShow, Mode: mode, Prefix: p, Comms: []uint32{1}})
		}
	}
	// What is taken has no peer.
	silent(t, all(func(q *api.Query) { q.Peer = 1 }), all(func(q *api.Query) { q.Peer = -1 }))
	// Texts that are no pattern, among them those that can't be quoted, and those that end their quotes.
	for _, s := range []string{"(", "a", "01", long(101), "\"", "\\", `1" in 2 path "1`, "1\"", `"1`, "1\n", "\t", "\xff", "ä", "\x00", "1\x7f", `" community no-export`, strings.Repeat("1", 100000)} {
		silent(t, all(path(s)), all(path(s), comms(1)), all(path(s), in(1)))
	}
	silent(t, all(comms(1, 2, 3, 4, 5)), all(comms(1, 1, 1, 1, 1)), all(comms(make([]uint32, 32)...)), all(comms(make([]uint32, 100000)...)))
	// Fields that a kind has not.
	each := []func(*api.Query){
		func(q *api.Query) { q.Mode = 2 }, func(q *api.Query) { q.Prefix.Len = 8 }, func(q *api.Query) { q.Prefix.Addr = 1 << 31 }, func(q *api.Query) { q.Table = 1 },
		func(q *api.Query) { q.Regex = "1" }, func(q *api.Query) { q.Comms = []uint32{1} },
	}
	for _, change := range each {
		for _, q := range []api.Query{next(1), shut(1), soft(1, false), soft(1, true), stop, stat} {
			change(&q)
			silent(t, q)
		}
	}
	for _, change := range []func(*api.Query){func(q *api.Query) { q.Cursor = 1 }, func(q *api.Query) { q.Cursor = -1 }} {
		for _, q := range []api.Query{all(), shown(api.Exact, "10.0.0.0/8", in(1)), soft(1, false), stop, stat} {
			change(&q)
			silent(t, q)
		}
	}
	for _, q := range []api.Query{all(), all(out(1)), next(1), shut(1), stop, stat} {
		q.Out = true
		silent(t, q)
	}
	for _, q := range []api.Query{next(1), shut(1), stop, stat} {
		q.Peer = 1
		silent(t, q)
	}
}

// A line has 200 bytes at most.
func TestTextOfWhatIsTooLong(t *testing.T) {
	q := shown(api.Shorter, "255.255.255.255/32", out(most), comms(most, most, most))
	ahead := len(`show shorter 255.255.255.255/32 out 4294967295 path "" community 65535:65535 community 65535:65535 community 65535:65535`)
	for n := 1; n <= 100; n++ {
		path(long(n))(&q)
		if line, ok := query.Text(q); ok != (ahead+n <= 200) || ok && len(line) != ahead+n || !ok && line != "" {
			t.Error(n, len(line), ok)
		}
	}
}

// right tells whether a request may be, by the words of P25.1, but for the length of its line.
func right(q api.Query) bool {
	number := func(n int) bool { return 0 <= n && n <= most }
	bare := api.Query{Kind: q.Kind}
	_, e := regex.Parse(q.Regex)
	switch q.Kind {
	case 1:
		peer := q.Table == 0 && q.Peer == 0 || (q.Table == 1 || q.Table == 2) && number(q.Peer)
		return 1 <= q.Mode && q.Mode <= 3 && prefix.Right(q.Prefix) && peer && e == api.OK && len(q.Comms) <= 4 && q.Cursor == 0 && !q.Out
	case 2, 3:
		bare.Cursor = q.Cursor
		return query.Same(bare, q) && number(q.Cursor)
	case 4:
		bare.Peer, bare.Out = q.Peer, q.Out
		return query.Same(bare, q) && number(q.Peer)
	case 5, 6:
		return query.Same(bare, q)
	}
	return false
}

// By chance: a request has a line just if it may be.
func TestRequestsByChance(t *testing.T) {
	x := chance(252)
	lines, none := 0, 0
	for range 60000 {
		// Most fields are as they may be.
		seldom := func(n int, odd ...int) int {
			if x.below(12) == 0 {
				return pick(&x, odd...)
			}
			return n
		}
		q := api.Query{Kind: pick(&x, 1, 1, 1, 1, 2, 3, 4, 5, 6, 0, 7)}
		show := q.Kind == api.QShow
		if show {
			q.Mode, q.Prefix = seldom(1+x.below(3), 0, 4, -1), prefix.Norm(uint32(x.below(1<<31))*2, x.below(33))
			q.Prefix.Len = seldom(q.Prefix.Len, -1, 33, 0)
			q.Table = seldom(x.below(3), 3, -1)
		}
		if show && q.Table != 0 || q.Kind == api.QSoft {
			q.Peer = seldom(x.below(7), -1, most, most+1, math.MinInt)
		}
		if show && x.below(2) == 0 {
			q.Regex = pick(&x, "1", "^1 (2|3)*$", " ", "(1)", "(", long(100), long(101), `"`)
		}
		for range seldom(0, 1, 2, 3, 4, 5) {
			q.Comms = append(q.Comms, pick(&x, uint32(0), 1, most, noExport))
		}
		if q.Kind == api.QNext || q.Kind == api.QClose {
			q.Cursor = seldom(x.below(100), -1, most, most+1, math.MaxInt)
		}
		q.Cursor = seldom(q.Cursor, 0, 1)
		q.Out = q.Kind == api.QSoft && x.below(2) == 0 || x.below(40) == 0
		if again(t, q) {
			lines++
		} else {
			none++
		}
	}
	if lines < 10000 || none < 10000 {
		t.Error(lines, none)
	}
}

// Rule 4: what is handed in, and the room behind its end, is not changed; Rule 5: what was answered stays as it is.
func TestListsStay(t *testing.T) {
	room := []uint32{1, 2, 3, 4}
	q := all(comms(room[:2]...))
	q.Comms = room[:2]
	query.Text(q)
	query.Same(q, all(comms(1, 2, 3)))
	if !slices.Equal(room, []uint32{1, 2, 3, 4}) {
		t.Error(room)
	}
	a, _ := query.Parse("show all community 0:1 community 0:2 community 0:3")
	b, _ := query.Parse("show all community 0:1 community 0:2 community 0:3")
	left, right := append(a.Comms, 8), append(b.Comms[:2], 9)
	if !slices.Equal(left, []uint32{1, 2, 3, 8}) || !slices.Equal(right, []uint32{1, 2, 9}) || !slices.Equal(a.Comms, []uint32{1, 2, 3}) {
		t.Error(a, left, right)
	}
	is(t, "show all community 0:1 community 0:2 community 0:3", all(comms(1, 2, 3)))
	query.Parse("show all community 0:1 x")
	is(t, "stat", stat)
}
