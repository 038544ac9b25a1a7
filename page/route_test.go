package page_test

import (
	"math"
	"slices"
	"strings"
	"testing"

	"speculum/api"
	"speculum/page"
)

// P27.1

func TestRoute(t *testing.T) {
	const ten = "10.0.0.0/8"
	for want, x := range map[string]api.Entry{
		"10.0.0.0/8 from 1 next 10.0.0.1 origin 0 path 65002":          entry(1, ten, said("65002")),
		"10.0.0.0/8 from 0 next 10.0.0.1 origin 0 path":                entry(0, ten, said("")),
		"0.0.0.0/0 from 5 next 10.0.0.1 origin 0 path 1 2 3":           entry(5, "0.0.0.0/0", said("1 2 3")),
		"255.255.255.255/32 from 0 next 255.255.255.255 origin 2 path": entry(0, "255.255.255.255/32", said("", next(math.MaxUint32), origin(2))),
		"10.0.0.0/8 from 0 next 0.0.0.0 origin 1 path":                 entry(0, ten, said("", next(0), origin(1))),
		// What may be said.
		"10.0.0.0/8 from 0 next 10.0.0.1 origin 0 pref 100 path 1":                                       entry(0, ten, said("1", pref(100))),
		"10.0.0.0/8 from 0 next 10.0.0.1 origin 0 pref 0 path 1":                                         entry(0, ten, said("1", pref(0))),
		"10.0.0.0/8 from 0 next 10.0.0.1 origin 0 pref 4294967295 path 1":                                entry(0, ten, said("1", pref(math.MaxUint32))),
		"10.0.0.0/8 from 0 next 10.0.0.1 origin 0 med 7 path 1":                                          entry(0, ten, said("1", med(7))),
		"10.0.0.0/8 from 0 next 10.0.0.1 origin 0 med 0 path 1":                                          entry(0, ten, said("1", med(0))),
		"10.0.0.0/8 from 0 next 10.0.0.1 origin 0 med 4294967295 path":                                   entry(0, ten, said("", med(math.MaxUint32))),
		"10.0.0.0/8 from 0 next 10.0.0.1 origin 0 pref 8 med 9 path":                                     entry(0, ten, said("", med(9), pref(8))),
		"10.0.0.0/8 from 0 next 10.0.0.1 origin 0 comm 0:0 path 1":                                       entry(0, ten, said("1", comms(0))),
		"10.0.0.0/8 from 0 next 10.0.0.1 origin 0 comm no-export path":                                   entry(0, ten, said("", comms(noExport))),
		"10.0.0.0/8 from 0 next 10.0.0.1 origin 0 comm 65535:65535,no-advertise,0:1,local-as,0:1 path 2": entry(0, ten, said("2", comms(math.MaxUint32, noAdvertise, 1, localAS, 1))),
		"10.0.0.0/8 from 3 next 1.2.3.4 origin 2 pref 200 med 5 comm 1:2,0:9 path 4294967295 {3,4} 5 5":  entry(3, ten, said("4294967295 {3,4} 5 5", next(0x01020304), comms(65538, 9), pref(200), med(5), origin(2))),
		"10.0.0.0/8 from 0 next 10.0.0.1 origin 0 path {1}":                                              entry(0, ten, said("{1}")),
		"10.0.0.0/8 from 0 next 10.0.0.1 origin 0 path 1 2 {3}":                                          entry(0, ten, said("", segments(api.Segment{Kind: 2, AS: []uint32{1}}, api.Segment{Kind: 2, AS: []uint32{2}}, api.Segment{Kind: 1, AS: []uint32{3}}))),
		// Rule 3.
		"11.0.0.0/8 from 0 next 10.0.0.1 origin 0 path": entry(0, "11.0.0.0/8", said("", comms([]uint32{}...), segments([]api.Segment{}...))),
	} {
		if got := page.Route(x); got != want {
			t.Errorf("%q, not %q", got, want)
		}
	}
}

// What stands in other fields is not told.
func TestRouteOfOtherFields(t *testing.T) {
	a := said("1", func(a *api.Attrs) {
		a.Atomic, a.HasAggr, a.AggrAS, a.AggrAddr, a.Raws = true, true, 7, 8, []api.Raw{{Flags: 192, Type: 99, Data: []byte{1}}}
	})
	if got := page.Route(entry(1, "10.0.0.0/8", a)); got != "10.0.0.0/8 from 1 next 10.0.0.1 origin 0 path 1" {
		t.Error(got)
	}
}

// Rule 9: what is handed in need not be right; nothing is told of a path that is not, nor of such a prefix.
func TestRouteOfWhatIsNotRight(t *testing.T) {
	const ten = "10.0.0.0/8"
	for want, x := range map[string]api.Entry{
		"10.0.0.0/8 from -1 next 10.0.0.1 origin -5 path":                                      entry(-1, ten, said("", origin(-5))),
		"10.0.0.0/8 from 0 next 10.0.0.1 origin 3 path":                                        entry(0, ten, said("", origin(3))),
		"10.0.0.0/8 from 0 next 10.0.0.1 origin 0 pref 4294967296 med -2 path 1":               entry(0, ten, said("1", pref(1<<32), med(-2))),
		"10.0.0.0/8 from 0 next 10.0.0.1 origin 0 pref -2 med 4294967296 path 1":               entry(0, ten, said("1", pref(-2), med(1<<32))),
		"10.0.0.0/8 from 0 next 10.0.0.1 origin 0 path":                                        entry(0, ten, said("", segments(api.Segment{Kind: 3, AS: []uint32{1}}))),
		"11.0.0.0/8 from 0 next 10.0.0.1 origin 0 path":                                        entry(0, "11.0.0.0/8", said("", segments(api.Segment{Kind: 2, AS: []uint32{1}}, api.Segment{Kind: 2}))),
		"12.0.0.0/8 from 0 next 10.0.0.1 origin 0 path":                                        entry(0, "12.0.0.0/8", said("", segments(api.Segment{Kind: 2, AS: make([]uint32, 65)}))),
		"13.0.0.0/8 from 0 next 10.0.0.1 origin 0 pref 5 path":                                 entry(0, "13.0.0.0/8", said("", pref(5), segments(slices.Repeat([]api.Segment{{Kind: 1, AS: []uint32{1}}}, 9)...))),
		" from 9223372036854775807 next 0.0.0.0 origin -9223372036854775808 pref 0 med 0 path": {Prefix: api.Prefix{Len: 33}, From: math.MaxInt, Attrs: api.Attrs{Origin: math.MinInt}},
		" from 0 next 10.0.0.1 origin 0 path 1":                                                {Prefix: api.Prefix{Addr: 1, Len: 8}, Attrs: said("1")},
	} {
		if got := page.Route(x); got != want {
			t.Errorf("%q, not %q", got, want)
		}
	}
	// More communities than may be.
	if got := page.Route(entry(0, ten, said("1", comms(make([]uint32, 40)...)))); got != "10.0.0.0/8 from 0 next 10.0.0.1 origin 0 comm "+strings.Repeat("0:0,", 39)+"0:0 path 1" {
		t.Error(got)
	}
}

func TestFitsByPattern(t *testing.T) {
	x := entry(0, "10.0.0.0/8", said("9 1 2 {3,4} 5"))
	none := entry(0, "10.0.0.0/8", said(""))
	for s, fits := range map[string][2]bool{
		"": {true, true}, " ": {true, true}, "_": {true, true}, "()": {true, true}, "1*": {true, true}, "|": {true, true}, "^": {true, true}, "$": {true, true},
		"^$": {false, true}, "^9": {true, false}, "^1": {false, false}, "1": {true, false}, "5$": {true, false}, "4$": {false, false}, "1 2": {true, false}, "9 2": {false, false}, ".": {true, false}, "7": {false, false}, "6?": {true, true},
		// The numbers of sets stand in the path as they are, in order.
		"2 3 4 5": {true, false}, "2 4": {false, false}, "^......$": {true, false}, "^.....$": {false, false}, "[3-4]": {true, false}, "[^1-9]": {false, false}, "9 1 (2|7) 3 4 5": {true, false},
		// What is none fits nothing.
		"(": {false, false}, "a": {false, false}, "01": {false, false}, "*": {false, false}, "1 -2": {false, false}, "[]": {false, false}, "\xff": {false, false}, "\n": {false, false}, "{3,4}": {false, false},
		strings.Repeat(" ", 100): {true, true}, strings.Repeat(" ", 101): {false, false}, strings.Repeat("1", 5000): {false, false},
	} {
		for i, y := range []api.Entry{x, none} {
			for _, kind := range []int{api.QShow, 0, api.QNext} {
				if got := page.Fits(api.Query{Kind: kind, Regex: s}, y); got != fits[i] {
					t.Errorf("%q of %v: %v", s, y.Attrs.Path, got)
				}
			}
		}
	}
	// Paths that are not right have numbers, too.
	odd := entry(0, "10.0.0.0/8", said("", segments(api.Segment{Kind: 7, AS: []uint32{1, 2}}, api.Segment{}, api.Segment{Kind: -1, AS: []uint32{3}})))
	if !page.Fits(all(path("^1 2 3$")), odd) || page.Fits(all(path("^1 2$")), odd) {
		t.Error("of a path that is not right")
	}
}

func TestFitsByCommunities(t *testing.T) {
	for _, c := range []struct {
		have, want []uint32
		fits       bool
	}{
		{nil, nil, true}, {[]uint32{1}, nil, true}, {[]uint32{1}, []uint32{}, true}, {[]uint32{}, nil, true},
		{nil, []uint32{1}, false}, {nil, []uint32{0}, false}, {[]uint32{1}, []uint32{1}, true}, {[]uint32{1, 2, 3}, []uint32{2}, true}, {[]uint32{1, 2, 3}, []uint32{3, 1}, true}, {[]uint32{1, 2, 3}, []uint32{3, 2, 1, 2}, true},
		{[]uint32{1, 2}, []uint32{3}, false}, {[]uint32{1, 2}, []uint32{1, 3}, false}, {[]uint32{1, 2}, []uint32{3, 1}, false}, {[]uint32{noExport}, []uint32{noExport}, true}, {[]uint32{noExport}, []uint32{noAdvertise}, false}, {[]uint32{1, 2, 3, 4}, []uint32{1, 2, 3, 4, 5}, false}, {[]uint32{5, 4, 3, 2, 1}, []uint32{1, 2, 3, 4, 5}, true},
	} {
		x := entry(0, "10.0.0.0/8", said("7 8", comms(c.have...)))
		if got := page.Fits(all(comm(c.want...)), x); got != c.fits {
			t.Errorf("%v of %v: %v", c.want, c.have, got)
		}
		// Both must fit.
		for s, match := range map[string]bool{"7": true, "9": false, "(": false} {
			if got := page.Fits(all(comm(c.want...), path(s)), x); got != (c.fits && match) {
				t.Errorf("%q, %v of %v: %v", s, c.want, c.have, got)
			}
		}
	}
}

// Of all else that is asked for, nothing says whether an entry fits.
func TestFitsOfOtherFields(t *testing.T) {
	x := entry(4, "10.0.0.0/8", said("1"))
	for _, q := range []api.Query{{}, {Mode: 1, Prefix: parse("11.0.0.0/8")}, {Table: 2, Peer: 1}, {Table: 9}, {Kind: 6, Cursor: 5, Out: true}, {Prefix: api.Prefix{Len: 40}}} {
		if !page.Fits(q, x) || !page.Fits(q, api.Entry{}) {
			t.Errorf("%+v", q)
		}
	}
}
