package rib_test

import (
	"math"
	"slices"
	"testing"

	"speculum/api"
	"speculum/prefix"
)

// P18.4: what tables tell.

func full(t *testing.T) *world {
	w := begin(t, outer(65002, ins(permit(setMed(7)))), outer(65003), inner(3)).up(0).up(1).up(2)
	w.tell(0, news(said("1"), "0.0.0.0/0", ten, "10.1.0.0/16", "10.1.2.0/24"))
	return w.tell(1, news(said("2 3"), "10.1.2.0/24", "10.2.0.0/16", eleven))
}

func TestGet(t *testing.T) {
	w := full(t)
	for _, c := range []struct {
		table, k int
		at       string
		want     api.Entry
	}{
		{api.TLoc, 0, ten, entry(0, ten, said("1", med(7)))},
		{api.TLoc, 0, eleven, entry(1, eleven, said("2 3"))},
		// What is taken has no peer: any will do.
		{api.TLoc, 1, ten, entry(0, ten, said("1", med(7)))},
		{api.TLoc, -1, eleven, entry(1, eleven, said("2 3"))},
		{api.TLoc, 3, eleven, entry(1, eleven, said("2 3"))},
		{api.TLoc, math.MinInt, ten, entry(0, ten, said("1", med(7)))},
		{api.TLoc, math.MaxInt, "10.1.2.0/24", entry(0, "10.1.2.0/24", said("1", med(7)))},
		{api.TIn, 0, ten, entry(0, ten, said("1"))},
		{api.TIn, 1, "10.1.2.0/24", entry(1, "10.1.2.0/24", said("2 3"))},
		{api.TOut, 1, ten, entry(1, ten, told("1"))},
		{api.TOut, 0, eleven, entry(0, eleven, told("2 3"))},
		{api.TOut, 2, eleven, entry(2, eleven, said("2 3", pref(100)))},
	} {
		if got, ok := w.r.Get(c.table, c.k, parse(c.at)); !ok || !sameEntry(got, c.want) {
			t.Errorf("%+v: %+v, %v", c, got, ok)
		}
	}
	for _, c := range []struct {
		table, k int
		at       api.Prefix
	}{
		{api.TLoc, 0, parse("10.0.0.0/9")}, {api.TLoc, 0, parse("10.0.0.0/7")}, {api.TIn, 0, parse(eleven)}, {api.TIn, 1, parse(ten)}, {api.TIn, 2, parse(ten)},
		{api.TOut, 0, parse(ten)}, {api.TOut, 1, parse(eleven)}, {api.TLoc, 0, wrong()[0]}, {api.TLoc, 0, wrong()[1]}, {api.TIn, 0, wrong()[1]}, {api.TOut, 1, wrong()[1]},
	} {
		if got, ok := w.r.Get(c.table, c.k, c.at); ok || !sameEntry(got, api.Entry{}) {
			t.Errorf("%+v: %+v, %v", c, got, ok)
		}
	}
}

func TestTablesThatAreNone(t *testing.T) {
	w := full(t)
	for _, table := range []int{-1, 3, math.MinInt, math.MaxInt} {
		for _, k := range []int{0, 1, -1, 3} {
			empty(t, "no such table", w.r, table, k)
		}
	}
	for _, table := range []int{api.TIn, api.TOut} {
		for _, k := range []int{-1, 3, 6, math.MinInt, math.MaxInt} {
			empty(t, "no such peer", w.r, table, k)
		}
	}
	empty(t, "told nothing", w.r, api.TIn, 2)
	w.down(1)
	empty(t, "is not up", w.r, api.TIn, 1)
	empty(t, "is not up", w.r, api.TOut, 1)
}

func TestAllIsInOrder(t *testing.T) {
	w := full(t)
	of := func(k int, a api.Attrs, l ...string) []api.Entry {
		var out []api.Entry
		for _, s := range l {
			out = append(out, entry(k, s, a))
		}
		return out
	}
	w.taken(append(of(0, said("1", med(7)), "0.0.0.0/0", ten, "10.1.0.0/16", "10.1.2.0/24"), of(1, said("2 3"), "10.2.0.0/16", eleven)...)...)
	for _, k := range []int{-1, 2, 3, math.MaxInt} {
		w.has(api.TLoc, k, w.r.All(api.TLoc, 0)...)
	}
	w.has(api.TIn, 0, of(0, said("1"), "0.0.0.0/0", ten, "10.1.0.0/16", "10.1.2.0/24")...)
	w.has(api.TIn, 1, of(1, said("2 3"), "10.1.2.0/24", "10.2.0.0/16", eleven)...).has(api.TIn, 2)
	w.has(api.TOut, 0, of(0, told("2 3"), "10.2.0.0/16", eleven)...)
	w.has(api.TOut, 1, of(1, told("1"), "0.0.0.0/0", ten, "10.1.0.0/16", "10.1.2.0/24")...)
	w.has(api.TOut, 2, append(of(2, said("1", med(7), pref(100)), "0.0.0.0/0", ten, "10.1.0.0/16", "10.1.2.0/24"), of(2, said("2 3", pref(100)), "10.2.0.0/16", eleven)...)...)
}

func TestCovering(t *testing.T) {
	w := full(t)
	for _, c := range []struct {
		table, k int
		at       string
		want     []string
	}{
		{api.TLoc, 5, "10.1.2.3/32", []string{"0.0.0.0/0", ten, "10.1.0.0/16", "10.1.2.0/24"}},
		{api.TLoc, 0, "10.1.0.0/16", []string{"0.0.0.0/0", ten, "10.1.0.0/16"}},
		{api.TLoc, 0, "10.2.3.0/24", []string{"0.0.0.0/0", ten, "10.2.0.0/16"}},
		{api.TLoc, 0, "10.0.0.0/7", []string{"0.0.0.0/0"}},
		{api.TIn, 1, "10.1.2.3/32", []string{"10.1.2.0/24"}},
		{api.TIn, 1, ten, nil},
		{api.TOut, 0, "10.2.3.4/32", []string{"10.2.0.0/16"}},
		{api.TOut, 0, "10.1.2.3/32", nil},
		{api.TOut, 1, "10.1.2.3/32", []string{"0.0.0.0/0", ten, "10.1.0.0/16", "10.1.2.0/24"}},
	} {
		got := w.r.Covering(c.table, c.k, parse(c.at))
		if len(got) != len(c.want) {
			t.Fatalf("%+v: %+v", c, got)
		}
		for i, x := range got {
			if want, ok := w.r.Get(c.table, c.k, parse(c.want[i])); !ok || !sameEntry(x, want) {
				t.Errorf("%+v: %+v", c, x)
			}
		}
	}
	for _, p := range wrong() {
		if l := w.r.Covering(api.TLoc, 0, p); len(l) != 0 {
			t.Error(p, l)
		}
	}
}

func TestNext(t *testing.T) {
	w := full(t)
	for _, c := range []struct {
		table, k  int
		in, after string
		first     bool
		want      string
	}{
		{api.TLoc, 0, "0.0.0.0/0", "255.0.0.0/8", true, "0.0.0.0/0"},
		{api.TLoc, 9, "0.0.0.0/0", "0.0.0.0/0", false, ten},
		{api.TLoc, 0, "0.0.0.0/0", ten, false, "10.1.0.0/16"},
		{api.TLoc, 0, "0.0.0.0/0", "10.1.2.0/24", false, "10.2.0.0/16"},
		{api.TLoc, 0, "0.0.0.0/0", "10.1.2.0/25", false, "10.2.0.0/16"},
		{api.TLoc, 0, "0.0.0.0/0", eleven, false, ""},
		{api.TLoc, 0, "10.1.0.0/16", "0.0.0.0/0", true, "10.1.0.0/16"},
		{api.TLoc, 0, "10.1.0.0/16", "0.0.0.0/0", false, "10.1.0.0/16"},
		{api.TLoc, 0, "10.1.0.0/16", "10.1.2.0/24", false, ""},
		{api.TLoc, 0, "12.0.0.0/8", "0.0.0.0/0", true, ""},
		{api.TIn, 1, ten, "0.0.0.0/0", true, "10.1.2.0/24"},
		{api.TIn, 1, ten, "10.1.2.0/24", false, "10.2.0.0/16"},
		{api.TIn, 1, ten, "10.2.0.0/16", false, ""},
		{api.TOut, 0, "0.0.0.0/0", "0.0.0.0/0", true, "10.2.0.0/16"},
		{api.TOut, 0, "0.0.0.0/0", "10.2.0.0/16", false, eleven},
		{api.TOut, 2, "0.0.0.0/0", "10.1.0.0/16", false, "10.1.2.0/24"},
	} {
		got, ok := w.r.Next(c.table, c.k, parse(c.in), parse(c.after), c.first)
		if ok != (c.want != "") {
			t.Errorf("%+v: %+v", c, got)
			continue
		}
		want := api.Entry{}
		if ok {
			want, _ = w.r.Get(c.table, c.k, parse(c.want))
		}
		if !sameEntry(got, want) {
			t.Errorf("%+v: %+v", c, got)
		}
	}
	for _, p := range wrong() {
		for _, first := range []bool{true, false} {
			if x, ok := w.r.Next(api.TLoc, 0, p, whole, first); ok || !sameEntry(x, api.Entry{}) {
				t.Error(p, x)
			}
		}
		// What first begins at is of no matter, and what is no prefix has a place in the order, too.
		if x, ok := w.r.Next(api.TLoc, 0, whole, p, true); !ok || x.Prefix != whole {
			t.Error(p, x)
		}
		x, ok := w.r.Next(api.TLoc, 0, whole, p, false)
		all := w.r.All(api.TLoc, 0)
		i := slices.IndexFunc(all, func(y api.Entry) bool { return prefix.Compare(y.Prefix, p) > 0 })
		if ok != (i >= 0) || ok && x.Prefix != all[i].Prefix {
			t.Error(p, x)
		}
	}
}

// What is told of tables is apart: whoever puts something behind a list does not reach what is told next.
func TestListsAreApart(t *testing.T) {
	w := full(t)
	for table := range 3 {
		want := w.r.All(table, 1)
		_ = append(w.r.All(table, 1), api.Entry{})
		_ = append(w.r.Covering(table, 1, parse("10.1.2.3/32")), api.Entry{})
		w.has(table, 1, want...)
	}
	w.tell(0, news(said("9"), ten, "10.3.0.0/16", "10.4.0.0/16"))
	c := w.c
	for _, l := range append(c.Outs, c.Loc) {
		_ = append(l, whole)
	}
	w.changed(parsed(ten, "10.3.0.0/16", "10.4.0.0/16"), nil, parsed(ten, "10.3.0.0/16", "10.4.0.0/16"), parsed(ten, "10.3.0.0/16", "10.4.0.0/16"))
}
