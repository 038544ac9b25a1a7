package page_test

import (
	"math"
	"slices"
	"testing"

	"speculum/api"
	"speculum/page"
	"speculum/rib"
)

// P27.2

func TestCheck(t *testing.T) {
	r := nest(t)
	for _, x := range []struct {
		name  string
		r     *rib.Rib
		peers int
	}{{"three peers", r, 3}, {"none", rib.New(us, nil), 0}, {"nil", nil, 0}, {"a zero one", &rib.Rib{}, 0}, {"six of eight", rib.New(us, make([]api.Peer, 8)), 6}} {
		for _, k := range []int{math.MinInt, -1, 0, 1, 2, 3, 5, 6, 7, 1 << 32, math.MaxInt} {
			for _, table := range []int{api.TLoc, api.TIn, api.TOut, 3, -1, math.MinInt, math.MaxInt} {
				want := api.EPEER
				// What is taken has no peer: any may be told. It matters not whether a peer is up.
				if table == api.TLoc || (table == api.TIn || table == api.TOut) && k >= 0 && k < x.peers {
					want = api.OK
				}
				for _, q := range []api.Query{all(in(table, k)), asks(api.Exact, "99.0.0.0/8", in(table, k), path("("), comm(1)), {Table: table, Peer: k}, {Table: table, Peer: k, Mode: 7, Prefix: api.Prefix{Len: 99}}} {
					if e := page.Check(x.r, q); e != want {
						t.Errorf("%s: %d of %d: %d", x.name, table, k, e)
					}
				}
			}
		}
	}
}

// shows holds the prefixes that all of an answer tells against some.
func shows(t *testing.T, r *rib.Rib, q api.Query, want ...string) {
	t.Helper()
	if got := at(page.Whole(r, q)); !slices.Equal(got, want) {
		t.Errorf("%+v: %q, not %q", q, got, want)
	}
}

func TestModes(t *testing.T) {
	r := nest(t)
	shows(t, r, asks(api.Exact, "10.1.0.0/16"), "10.1.0.0/16")
	shows(t, r, asks(api.Exact, "10.1.0.0/24"), "10.1.0.0/24")
	shows(t, r, asks(api.Exact, "0.0.0.0/0"), "0.0.0.0/0")
	shows(t, r, asks(api.Exact, "10.1.0.0/17"))
	shows(t, r, asks(api.Exact, "10.1.2.4/32"))
	shows(t, r, asks(api.Longer, "10.1.0.0/16"), "10.1.0.0/16", "10.1.0.0/24", "10.1.2.0/24", "10.1.2.3/32")
	shows(t, r, asks(api.Longer, "10.1.0.0/17"), "10.1.0.0/24", "10.1.2.0/24", "10.1.2.3/32")
	shows(t, r, asks(api.Longer, "10.0.0.0/8"), "10.0.0.0/8", "10.0.0.0/9", "10.1.0.0/16", "10.1.0.0/24", "10.1.2.0/24", "10.1.2.3/32", "10.2.0.0/16")
	shows(t, r, asks(api.Longer, "255.255.255.255/32"), "255.255.255.255/32")
	shows(t, r, asks(api.Longer, "13.0.0.0/8"))
	everything := []string{"0.0.0.0/0", "9.0.0.0/8", "10.0.0.0/8", "10.0.0.0/9", "10.1.0.0/16", "10.1.0.0/24", "10.1.2.0/24", "10.1.2.3/32", "10.2.0.0/16", "11.0.0.0/8", "12.0.0.0/8", "128.0.0.0/1", "255.255.255.255/32"}
	shows(t, r, all(), everything...)
	shows(t, r, asks(api.Shorter, "10.1.2.3/32"), "0.0.0.0/0", "10.0.0.0/8", "10.0.0.0/9", "10.1.0.0/16", "10.1.2.0/24", "10.1.2.3/32")
	shows(t, r, asks(api.Shorter, "10.1.2.0/23"), "0.0.0.0/0", "10.0.0.0/8", "10.0.0.0/9", "10.1.0.0/16")
	shows(t, r, asks(api.Shorter, "10.1.2.2/32"), "0.0.0.0/0", "10.0.0.0/8", "10.0.0.0/9", "10.1.0.0/16", "10.1.2.0/24")
	shows(t, r, asks(api.Shorter, "13.0.0.0/8"), "0.0.0.0/0")
	shows(t, r, asks(api.Shorter, "0.0.0.0/0"), "0.0.0.0/0")
	shows(t, r, asks(api.Shorter, "192.0.0.0/2"), "0.0.0.0/0", "128.0.0.0/1")
	for _, mode := range []int{0, 4, -1, math.MinInt, math.MaxInt} {
		shows(t, r, asks(mode, "0.0.0.0/0"))
		shows(t, r, asks(mode, "10.1.0.0/16"))
	}
	for _, mode := range []int{api.Exact, api.Longer, api.Shorter} {
		for _, p := range wrong() {
			q := asks(mode, "0.0.0.0/0")
			q.Prefix = p
			shows(t, r, q)
		}
	}
}

func TestTables(t *testing.T) {
	r := nest(t)
	const ten = "10.1.0.0/16"
	line := func(q api.Query, want ...string) {
		t.Helper()
		if got := page.Whole(r, q); !slices.Equal(got, want) {
			t.Errorf("%+v: %q, not %q", q, got, want)
		}
	}
	// The better one is taken; each told its own; each gets what came from the other one.
	for _, k := range []int{0, 1, 2, 3, -1, math.MaxInt} {
		line(asks(api.Exact, ten, in(api.TLoc, k)), ten+" from 1 next 10.0.0.1 origin 0 path 65003")
	}
	line(asks(api.Exact, ten, in(api.TIn, 0)), ten+" from 0 next 10.0.0.1 origin 0 path 65002 7")
	line(asks(api.Exact, ten, in(api.TIn, 1)), ten+" from 1 next 10.0.0.1 origin 0 path 65003")
	line(asks(api.Exact, ten, in(api.TOut, 0)), ten+" from 0 next 10.0.0.1 origin 0 path 65001 65003")
	line(asks(api.Exact, ten, in(api.TOut, 1)))
	line(asks(api.Exact, "9.0.0.0/8", in(api.TOut, 1)), "9.0.0.0/8 from 1 next 10.0.0.1 origin 0 comm 0:1,0:2 path 65001 65002 8")
	shows(t, r, all(in(api.TIn, 1)), ten, "12.0.0.0/8")
	shows(t, r, all(in(api.TOut, 0)), ten, "12.0.0.0/8")
	shows(t, r, all(in(api.TOut, 1)), "0.0.0.0/0", "9.0.0.0/8", "10.0.0.0/8", "10.0.0.0/9", "10.1.0.0/24", "10.1.2.0/24", "10.1.2.3/32", "10.2.0.0/16", "11.0.0.0/8", "128.0.0.0/1", "255.255.255.255/32")
	shows(t, r, asks(api.Shorter, "10.1.2.3/32", in(api.TIn, 1)), ten)
	shows(t, r, asks(api.Longer, ten, in(api.TIn, 0)), ten, "10.1.0.0/24", "10.1.2.0/24", "10.1.2.3/32")
	// One who is not up, ones that are not there, and tables that are none.
	for _, q := range []api.Query{all(in(api.TIn, 2)), all(in(api.TOut, 2)), all(in(api.TIn, 3)), all(in(api.TOut, -1)), all(in(api.TIn, math.MaxInt)), all(in(api.TOut, math.MinInt)), all(in(3, 0)), all(in(-1, 0)), all(in(math.MaxInt, 1)), asks(api.Exact, ten, in(api.TIn, 3)), asks(api.Shorter, ten, in(3, 0))} {
		shows(t, r, q)
	}
}

func TestWholeOfWhatFits(t *testing.T) {
	r := nest(t)
	shows(t, r, all(comm(1)), "9.0.0.0/8", "10.1.0.0/24", "10.2.0.0/16", "11.0.0.0/8", "12.0.0.0/8")
	shows(t, r, all(comm(1, 2)), "9.0.0.0/8", "10.1.0.0/24", "10.2.0.0/16", "11.0.0.0/8")
	shows(t, r, all(comm(3)))
	shows(t, r, all(path("^65003")), "10.1.0.0/16", "12.0.0.0/8")
	shows(t, r, all(path("8$"), comm(2)), "9.0.0.0/8", "10.0.0.0/9", "10.1.0.0/24", "10.2.0.0/16", "11.0.0.0/8", "128.0.0.0/1", "255.255.255.255/32")
	shows(t, r, all(path("(")))
	shows(t, r, asks(api.Shorter, "10.1.2.3/32", path("8")), "10.0.0.0/9")
	shows(t, r, asks(api.Exact, "10.1.0.0/16", path("7")))
	shows(t, r, asks(api.Exact, "10.1.0.0/16", path("7"), in(api.TIn, 0)), "10.1.0.0/16")
}

// makes holds a page against its lines' prefixes, the last one that was looked at, how many were, and whether there are others.
func makes(t *testing.T, r *rib.Rib, q api.Query, after string, first bool, most int, end string, visits int, more bool, want ...string) {
	t.Helper()
	p := page.Make(r, q, parse(after), first, most)
	if !slices.Equal(at(p.Lines), want) || p.After != parse(end) || p.Visits != visits || p.More != more {
		t.Errorf("%+v behind %s, %v, %d: %+v", q, after, first, most, p)
	}
}

func TestPages(t *testing.T) {
	r := nest(t)
	const zero, top = "0.0.0.0/0", "255.255.255.255/32"
	ten := asks(api.Longer, "10.0.0.0/8")
	// From the first one on, wherever after is.
	for _, after := range []string{zero, "10.0.0.0/8", "10.1.0.0/24", top} {
		makes(t, r, ten, after, true, 3, "10.1.0.0/16", 3, true, "10.0.0.0/8", "10.0.0.0/9", "10.1.0.0/16")
		makes(t, r, ten, after, true, 1, "10.0.0.0/8", 1, true, "10.0.0.0/8")
		makes(t, r, ten, after, true, 6, "10.1.2.3/32", 6, true, "10.0.0.0/8", "10.0.0.0/9", "10.1.0.0/16", "10.1.0.0/24", "10.1.2.0/24", "10.1.2.3/32")
		makes(t, r, ten, after, true, 0, after, 0, true)
	}
	// From behind a prefix, whether or not it is there.
	makes(t, r, ten, "10.1.0.0/16", false, 2, "10.1.2.0/24", 2, true, "10.1.0.0/24", "10.1.2.0/24")
	makes(t, r, ten, "10.1.0.0/23", false, 2, "10.1.2.0/24", 2, true, "10.1.0.0/24", "10.1.2.0/24")
	makes(t, r, ten, "10.1.0.0/25", false, 2, "10.1.2.3/32", 2, true, "10.1.2.0/24", "10.1.2.3/32")
	makes(t, r, ten, "10.1.0.0/25", false, 3, "10.2.0.0/16", 3, false, "10.1.2.0/24", "10.1.2.3/32", "10.2.0.0/16")
	makes(t, r, ten, "10.1.0.0/25", false, 4, "10.2.0.0/16", 3, false, "10.1.2.0/24", "10.1.2.3/32", "10.2.0.0/16")
	makes(t, r, ten, zero, false, 2, "10.0.0.0/9", 2, true, "10.0.0.0/8", "10.0.0.0/9")
	makes(t, r, ten, "9.0.0.0/8", false, 1, "10.0.0.0/8", 1, true, "10.0.0.0/8")
	makes(t, r, ten, "10.0.0.0/7", false, 1, "10.0.0.0/8", 1, true, "10.0.0.0/8")
	makes(t, r, ten, "10.1.2.3/32", false, 5, "10.2.0.0/16", 1, false, "10.2.0.0/16")
	for _, after := range []string{"10.2.0.0/16", "10.2.0.0/17", "11.0.0.0/8", "128.0.0.0/1", top} {
		makes(t, r, ten, after, false, 5, after, 0, false)
		makes(t, r, ten, after, false, 0, after, 0, false)
	}
	// Behind all but one, and all.
	makes(t, r, all(), "128.0.0.0/1", false, 5, top, 1, false, top)
	makes(t, r, all(), top, false, 5, top, 0, false)
	makes(t, r, all(), zero, false, 1, "9.0.0.0/8", 1, true, "9.0.0.0/8")
	makes(t, r, all(), zero, true, 1, zero, 1, true, zero)
}

func TestPagesOfExact(t *testing.T) {
	r := nest(t)
	q := asks(api.Exact, "10.1.0.0/16")
	for _, most := range []int{1, 2, 32, math.MaxInt} {
		makes(t, r, q, "200.0.0.0/8", true, most, "10.1.0.0/16", 1, false, "10.1.0.0/16")
		makes(t, r, q, "10.0.0.0/8", false, most, "10.1.0.0/16", 1, false, "10.1.0.0/16")
		makes(t, r, q, "10.0.255.255/32", false, most, "10.1.0.0/16", 1, false, "10.1.0.0/16")
		for _, after := range []string{"10.1.0.0/16", "10.1.0.0/17", "10.2.0.0/16", "11.0.0.0/8"} {
			makes(t, r, q, after, false, most, after, 0, false)
		}
	}
	makes(t, r, q, "10.0.0.0/8", false, 0, "10.0.0.0/8", 0, true)
	makes(t, r, q, "11.0.0.0/8", true, 0, "11.0.0.0/8", 0, true)
	makes(t, r, q, "11.0.0.0/8", false, 0, "11.0.0.0/8", 0, false)
	makes(t, r, asks(api.Exact, "13.0.0.0/8"), "0.0.0.0/0", true, 5, "0.0.0.0/0", 0, false)
}

func TestPagesOfShorter(t *testing.T) {
	r := nest(t)
	q := asks(api.Shorter, "10.1.2.3/32")
	makes(t, r, q, "99.0.0.0/8", true, 2, "10.0.0.0/8", 2, true, "0.0.0.0/0", "10.0.0.0/8")
	makes(t, r, q, "0.0.0.0/0", false, 2, "10.0.0.0/9", 2, true, "10.0.0.0/8", "10.0.0.0/9")
	makes(t, r, q, "10.0.0.0/9", false, 2, "10.1.2.0/24", 2, true, "10.1.0.0/16", "10.1.2.0/24")
	makes(t, r, q, "10.1.2.0/24", false, 2, "10.1.2.3/32", 1, false, "10.1.2.3/32")
	makes(t, r, q, "10.1.2.3/32", false, 2, "10.1.2.3/32", 0, false)
	// Behind one that doesn't cover it: the place in the order counts, not the length.
	makes(t, r, q, "9.0.0.0/8", false, 9, "10.1.2.3/32", 5, false, "10.0.0.0/8", "10.0.0.0/9", "10.1.0.0/16", "10.1.2.0/24", "10.1.2.3/32")
	makes(t, r, q, "10.1.0.0/24", false, 9, "10.1.2.3/32", 2, false, "10.1.2.0/24", "10.1.2.3/32")
	makes(t, r, q, "10.2.0.0/16", false, 9, "10.2.0.0/16", 0, false)
	makes(t, r, q, "10.1.2.0/24", false, 0, "10.1.2.0/24", 0, true)
}

// What does not fit is looked at, too.
func TestVisits(t *testing.T) {
	r := nest(t)
	q := all(comm(1))
	makes(t, r, q, "0.0.0.0/0", true, 2, "9.0.0.0/8", 2, true, "9.0.0.0/8")
	makes(t, r, q, "9.0.0.0/8", false, 3, "10.1.0.0/16", 3, true)
	makes(t, r, q, "10.1.0.0/16", false, 1, "10.1.0.0/24", 1, true, "10.1.0.0/24")
	// There are others behind that don't fit.
	makes(t, r, q, "11.0.0.0/8", false, 1, "12.0.0.0/8", 1, true, "12.0.0.0/8")
	makes(t, r, q, "12.0.0.0/8", false, 1, "128.0.0.0/1", 1, true)
	makes(t, r, q, "128.0.0.0/1", false, 1, "255.255.255.255/32", 1, false)
	makes(t, r, all(path("(")), "0.0.0.0/0", true, 100, "255.255.255.255/32", 13, false)
	makes(t, r, asks(api.Exact, "10.0.0.0/8", comm(9)), "0.0.0.0/0", true, 1, "10.0.0.0/8", 1, false)
}

// So many as may be, below 0 none; more than there are, all.
func TestMost(t *testing.T) {
	r := nest(t)
	for most := -3; most < 20; most++ {
		p := page.Make(r, all(), whole, true, most)
		want := min(max(most, 0), 13)
		if p.Visits != want || len(p.Lines) != want || p.More != (want < 13) || want == 0 && p.After != whole {
			t.Error(most, p)
		}
	}
	for _, most := range []int{math.MinInt, -1, 0} {
		makes(t, r, all(), "10.0.0.0/8", false, most, "10.0.0.0/8", 0, true)
		makes(t, r, all(), "255.255.255.255/32", false, most, "255.255.255.255/32", 0, false)
		makes(t, rib.New(us, nil), all(), "10.0.0.0/8", true, most, "10.0.0.0/8", 0, false)
	}
	for _, most := range []int{13, 14, 1 << 40, math.MaxInt} {
		if p := page.Make(r, all(), whole, true, most); p.Visits != 13 || p.More || p.After != parse("255.255.255.255/32") {
			t.Error(most, p)
		}
	}
}

// Of what there is nothing of, a page tells nothing but where it was to begin, be that right or not.
func TestPagesOfNothing(t *testing.T) {
	r := nest(t)
	for _, x := range []*rib.Rib{nil, {}, rib.New(us, nil), rib.New(us, make([]api.Peer, 3)), r} {
		for _, q := range []api.Query{{}, all(in(api.TIn, 2)), all(in(api.TOut, 9)), all(in(7, 0)), asks(9, "10.0.0.0/8"), asks(api.Exact, "77.0.0.0/8"), {Mode: api.Longer, Prefix: api.Prefix{Len: -1}}, {Mode: api.Shorter, Prefix: api.Prefix{Len: 33}}, {Mode: api.Exact, Prefix: api.Prefix{Addr: 1}}} {
			for _, after := range append(wrong(), whole, parse("10.0.0.0/8")) {
				for _, first := range []bool{true, false} {
					for _, most := range []int{-1, 0, 1, 100} {
						if p := page.Make(x, q, after, first, most); !samePage(p, page.Page{After: after}) {
							t.Errorf("%+v, %+v", q, p)
						}
					}
				}
			}
			if l := page.Whole(x, q); len(l) != 0 {
				t.Error(q, l)
			}
		}
	}
	for _, q := range []api.Query{all(), asks(api.Shorter, "10.1.2.3/32"), asks(api.Exact, "10.0.0.0/8"), all(in(api.TIn, 0))} {
		if l := page.Whole(nil, q); len(l) != 0 || page.Make(nil, q, whole, true, 5).More {
			t.Error(q, l)
		}
	}
}

// Where after is not right, its place in the order counts.
func TestBehindWhatIsNotRight(t *testing.T) {
	r := nest(t)
	for _, mode := range []int{api.Longer, api.Shorter} {
		q := asks(mode, "0.0.0.0/0")
		if mode == api.Shorter {
			q.Prefix = parse("10.1.2.3/32")
		}
		at := func(p api.Prefix, most int) page.Page { return page.Make(r, q, p, false, most) }
		if p := at(api.Prefix{Len: -1}, 1); p.After != whole || !p.More {
			t.Error(mode, p)
		}
		if p := at(api.Prefix{Addr: 10 << 24, Len: -1}, 1); p.After != parse("10.0.0.0/8") {
			t.Error(mode, p)
		}
		if p := at(api.Prefix{Addr: 10 << 24, Len: 99}, 1); p.After != parse("10.1.0.0/16") {
			t.Error(mode, p)
		}
		if p := at(api.Prefix{Addr: 10<<24 | 1<<16 | 1, Len: 3}, 1); p.After != parse("10.1.2.0/24") {
			t.Error(mode, p)
		}
	}
	if p := page.Make(r, all(), api.Prefix{Addr: math.MaxUint32, Len: 33}, false, 1); p.Visits != 0 || p.More {
		t.Error(p)
	}
}
