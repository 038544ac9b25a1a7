package page_test

import (
	"math"
	"slices"
	"testing"

	"speculum/api"
	"speculum/page"
	"speculum/prefix"
	"speculum/rib"
)

// lookedAt is all that is looked at, by the words of P27.2.
func lookedAt(r *rib.Rib, q api.Query) []api.Entry {
	var out []api.Entry
	for _, x := range r.All(q.Table, q.Peer) {
		is := q.Mode == 1 && x.Prefix == q.Prefix || q.Mode == 2 && prefix.Covers(q.Prefix, x.Prefix) || q.Mode == 3 && prefix.Covers(x.Prefix, q.Prefix)
		if is {
			out = append(out, x)
		}
	}
	slices.SortFunc(out, func(a, b api.Entry) int { return prefix.Compare(a.Prefix, b.Prefix) })
	return out
}

// pageOf is a page, by the words of P27.2.
func pageOf(r *rib.Rib, q api.Query, after api.Prefix, first bool, most int) page.Page {
	l := lookedAt(r, q)
	if !first {
		l = slices.DeleteFunc(l, func(x api.Entry) bool { return prefix.Compare(x.Prefix, after) <= 0 })
	}
	n := min(max(most, 0), len(l))
	p := page.Page{After: after, Visits: n, More: n < len(l)}
	for _, x := range l[:n] {
		p.After = x.Prefix
		if page.Fits(q, x) {
			p.Lines = append(p.Lines, page.Route(x))
		}
	}
	return p
}

// some is a prefix among few.
func some(x *chance) api.Prefix {
	n := pick(x, 0, 1, 7, 8, 9, 15, 16, 17, 24, 31, 32)
	return prefix.Norm(pick(x, uint32(10), 11, 0, 255)<<24|uint32(x.below(4))<<16|uint32(x.below(3))<<8|uint32(x.below(2)), n)
}

// byChance is a rib to which many routes were told.
func byChance(t *testing.T, x *chance) *rib.Rib {
	var updates [][]api.Update
	for range 3 {
		var l []api.Update
		for range x.below(12) {
			u := api.Update{Attrs: said(pick(x, "", "1", "1 2", "2 {1,3}", "3 1"), comms([][]uint32{nil, {1}, {1, 2}, {2, noExport}}[x.below(4)]...))}
			for range x.below(6) {
				u.News = append(u.News, some(x))
			}
			l = append(l, u)
		}
		updates = append(updates, l)
	}
	return ribOf(t, updates...)
}

// asked is a request among many, most of which may be.
func asked(x *chance) api.Query {
	q := api.Query{Kind: api.QShow, Mode: pick(x, 1, 2, 2, 2, 3, 3, 0, 4), Prefix: some(x), Table: pick(x, 0, 0, 1, 2, 3), Peer: pick(x, 0, 1, 2, 3, -1)}
	if q.Mode == api.Longer && x.below(2) == 0 {
		q.Prefix = whole
	}
	if x.below(20) == 0 {
		q.Prefix = pick(x, wrong()...)
	}
	if x.below(2) == 0 {
		q.Regex = pick(x, "1", "^1", "^$", "1 3", "(", ".", "[2-3]")
	}
	if x.below(3) == 0 {
		q.Comms = [][]uint32{{1}, {2}, {2, 1}, {noExport}}[x.below(4)]
	}
	return q
}

func TestAsTheWordsSay(t *testing.T) {
	x := chance(27)
	lines, mores := 0, 0
	for range 60 {
		r := byChance(t, &x)
		for range 300 {
			q, after, first, most := asked(&x), some(&x), x.below(3) == 0, pick(&x, -1, 0, 1, 2, 3, 5, 8, 32, 100, math.MaxInt)
			if x.below(10) == 0 {
				after = pick(&x, wrong()...)
			}
			got, want := page.Make(r, q, after, first, most), pageOf(r, q, after, first, most)
			if !samePage(got, want) {
				t.Fatalf("%+v behind %v, %v, %d: %+v, not %+v", q, after, first, most, got, want)
			}
			lines += len(got.Lines)
			if got.More {
				mores++
			}
			if l := page.Whole(r, q); !slices.Equal(l, pageOf(r, q, whole, true, math.MaxInt).Lines) {
				t.Fatalf("%+v: %q", q, l)
			}
		}
	}
	if lines < 5000 || mores < 2000 {
		t.Error(lines, mores)
	}
}

// P27.3: pages from one another's ends are the whole, and none is longer than may be.
func TestPagesAreWhole(t *testing.T) {
	x := chance(273)
	several := 0
	for range 40 {
		r := byChance(t, &x)
		for range 60 {
			q := asked(&x)
			var lines []string
			p := page.Page{More: true}
			first, pages := true, 0
			for p.More {
				most := pick(&x, 1, 1, 2, 3, 7, 32)
				p = page.Make(r, q, p.After, first, most)
				if p.Visits > most || len(p.Lines) > p.Visits || p.More && p.Visits != most {
					t.Fatalf("%+v, %d: %+v", q, most, p)
				}
				lines = append(lines, p.Lines...)
				first = false
				pages++
			}
			if !slices.Equal(lines, page.Whole(r, q)) {
				t.Fatalf("%+v: %q, not %q", q, lines, page.Whole(r, q))
			}
			if pages > 2 {
				several++
			}
			// Behind the last one there is nothing.
			if end := page.Make(r, q, p.After, first, 5); !samePage(end, page.Page{After: p.After}) {
				t.Fatalf("%+v: %+v", q, end)
			}
		}
	}
	if several < 200 {
		t.Error(several)
	}
}

// Rule 5: a rib's pages are the same again, whatever other ribs became of it.
func TestPagesOfOneRib(t *testing.T) {
	r := nest(t)
	q := all()
	before := page.Whole(r, q)
	first := page.Make(r, q, whole, true, 4)
	down, _, e := r.Down(0)
	if e != api.OK {
		t.Fatal(e)
	}
	shows(t, down, q, "10.1.0.0/16", "12.0.0.0/8")
	rest := page.Make(r, q, first.After, false, 100)
	if l := slices.Concat(first.Lines, rest.Lines); !slices.Equal(l, before) || !slices.Equal(page.Whole(r, q), before) {
		t.Error(l, before)
	}
	if again := page.Make(r, q, whole, true, 4); !samePage(again, first) {
		t.Error(again, first)
	}
}

// Rule 4: lists that were handed in are not changed, nor what lies behind their ends; lines are new.
func TestListsStay(t *testing.T) {
	room := []uint32{1, 2, 3, 4}
	a := said("1 2", comms(room[:2]...))
	a.Comms = room[:2]
	numbers := []uint32{7, 8, 9}
	a.Path = []api.Segment{{Kind: 2, AS: numbers[:1]}, {Kind: 2, AS: numbers[1:2]}}
	segment := a.Path[:1]
	q := all(comm(1))
	q.Comms = room[1:2]
	x := api.Entry{Prefix: parse("10.0.0.0/8"), Attrs: a}
	if got := page.Route(x); got != "10.0.0.0/8 from 0 next 10.0.0.1 origin 0 comm 0:1,0:2 path 7 8" || !page.Fits(q, x) {
		t.Error(got)
	}
	x.Attrs.Path = segment
	page.Route(x)
	page.Fits(q, x)
	r := ribOf(t, []api.Update{{Attrs: a, News: parsed("10.0.0.0/8", "11.0.0.0/8")}})
	l := page.Whole(r, q)
	l[0] = "x"
	page.Make(r, q, whole, true, 1)
	if !slices.Equal(room, []uint32{1, 2, 3, 4}) || !slices.Equal(numbers, []uint32{7, 8, 9}) || len(a.Path) != 2 || a.Path[1].AS[0] != 8 {
		t.Error(room, numbers, a.Path)
	}
	shows(t, r, q, "10.0.0.0/8", "11.0.0.0/8")
}

// The whole has as many lines as there are routes, though no page has.
func TestWholeOfMany(t *testing.T) {
	var l []api.Prefix
	for i := range 1000 {
		l = append(l, prefix.Norm(uint32(20<<24+i), 32))
	}
	r := ribOf(t, []api.Update{{Attrs: said("1"), News: l}})
	lines := page.Whole(r, all())
	if len(lines) != 1000 || lines[999] != "20.0.3.231/32 from 0 next 10.0.0.1 origin 0 path 1" {
		t.Error(len(lines))
	}
	if p := page.Make(r, all(), whole, true, 999); !p.More || p.After != parse("20.0.3.230/32") || !slices.Equal(p.Lines, lines[:999]) {
		t.Error(p.More, p.After)
	}
}
