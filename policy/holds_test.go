package policy_test

import (
	"math"
	"strings"
	"testing"

	"speculum/api"
	"speculum/attrs"
	"speculum/policy"
)

// full has something of each kind.
func full() api.Attrs {
	return api.Attrs{
		Origin: 1, Path: []api.Segment{seq(65001, 70000), set(3, 4), seq(9)}, Next: ten | 1, Med: 5, Pref: 200, Atomic: true,
		HasAggr: true, AggrAS: 70001, AggrAddr: ten | 2, Comms: []uint32{65001<<16 | 7, 0xFFFFFF01, 12},
		Raws: []api.Raw{{Flags: 224, Type: 9, Data: []byte{1}}, {Flags: 224, Type: 200, Data: []byte{2, 3}}},
	}
}

// none is what a call tells where there is nothing.
func none(a api.Attrs) bool { return attrs.Same(a, api.Attrs{}) }

// P14.2

func TestHolds(t *testing.T) {
	eight := of(ten, 8)
	sixteen := of(ten|1<<16, 16)
	for _, c := range []struct {
		name string
		c    api.Cond
		p    api.Prefix
		want bool
	}{
		{"any", api.Cond{Kind: 0}, eight, true},
		{"any, of a wrong prefix", api.Cond{Kind: 0}, of(1, 0), true},
		{"any, whatever else it has", api.Cond{Kind: 0, Num: 99, Addr: 1, Text: "(", Range: ranges(1), Comms: upTo(40)}, of(0, 0), true},
		// Prefixes.
		{"in the range", api.Cond{Kind: 1, Range: ranges(1)}, eight, true},
		{"within the range", api.Cond{Kind: 1, Range: ranges(1)}, sixteen, true},
		{"at its end", api.Cond{Kind: 1, Range: ranges(1)}, of(ten, 24), true},
		{"too long", api.Cond{Kind: 1, Range: ranges(1)}, of(ten, 25), false},
		{"too short", api.Cond{Kind: 1, Range: ranges(1)}, of(0, 0), false},
		{"beside", api.Cond{Kind: 1, Range: ranges(1)}, of(11<<24, 8), false},
		{"no range", api.Cond{Kind: 1}, eight, false},
		{"an empty list of them", api.Cond{Kind: 1, Range: []api.Range{}}, eight, false},
		{"in the last range", api.Cond{Kind: 1, Range: []api.Range{span(of(11<<24, 8), 8, 8), span(of(ten, 8), 9, 32), span(of(0, 0), 8, 8)}}, eight, true},
		{"in none of three", api.Cond{Kind: 1, Range: []api.Range{span(of(11<<24, 8), 8, 8), span(of(ten, 8), 9, 32), span(of(0, 0), 0, 7)}}, eight, false},
		{"in a range that is not right", api.Cond{Kind: 1, Range: []api.Range{span(of(ten, 8), 7, 24)}}, eight, false},
		{"in one beside one that is not right", api.Cond{Kind: 1, Range: wrongRanges()}, eight, true},
		{"in the last one of 17", api.Cond{Kind: 1, Range: append(ranges(16), span(of(11<<24, 8), 8, 8))}, of(11<<24, 8), true},
		{"a prefix that is not right", api.Cond{Kind: 1, Range: []api.Range{span(of(0, 0), 0, 32)}}, of(1, 8), false},
		// Patterns, of all numbers of the path: 65001 70000 {3,4} 9.
		{"a pattern", api.Cond{Kind: 2, Text: "70000 3"}, eight, true},
		{"all numbers", api.Cond{Kind: 2, Text: "^65001 70000 3 4 9$"}, eight, true},
		{"a number that is not there", api.Cond{Kind: 2, Text: "5"}, eight, false},
		{"in another order", api.Cond{Kind: 2, Text: "4 3"}, eight, false},
		{"not all numbers", api.Cond{Kind: 2, Text: "^65001 70000$"}, eight, false},
		{"the empty pattern", api.Cond{Kind: 2}, eight, true},
		{"no path", api.Cond{Kind: 2, Text: "^$"}, eight, false},
		{"no pattern", api.Cond{Kind: 2, Text: "("}, eight, false},
		{"no pattern, behind one", api.Cond{Kind: 2, Text: "65001 x"}, eight, false},
		{"too long a pattern", api.Cond{Kind: 2, Text: strings.Repeat(" ", 101)}, eight, false},
		{"the longest pattern", api.Cond{Kind: 2, Text: strings.Repeat(" ", 95) + "65001"}, eight, true},
		// Communities: 65001:7, no-export and 0:12.
		{"no communities", api.Cond{Kind: 3}, eight, true},
		{"an empty list", api.Cond{Kind: 3, Comms: []uint32{}}, eight, true},
		{"one", api.Cond{Kind: 3, Comms: []uint32{12}}, eight, true},
		{"two, the other way round", api.Cond{Kind: 3, Comms: []uint32{12, 65001<<16 | 7}}, eight, true},
		{"all", api.Cond{Kind: 3, Comms: []uint32{0xFFFFFF01, 65001<<16 | 7, 12}}, eight, true},
		{"another one", api.Cond{Kind: 3, Comms: []uint32{13}}, eight, false},
		{"one of two", api.Cond{Kind: 3, Comms: []uint32{12, 13}}, eight, false},
		{"one more than all", api.Cond{Kind: 3, Comms: []uint32{0xFFFFFF01, 65001<<16 | 7, 12, 0}}, eight, false},
		{"more than may be", api.Cond{Kind: 3, Comms: []uint32{12, 12, 12, 12, 12, 12, 12, 12, 12, 12, 12, 12, 12, 12, 12, 12, 12, 12, 12, 12, 12, 12, 12, 12, 12, 12, 12, 12, 12, 12, 12, 12, 12}}, eight, true},
		// How long the path counts: 4, since a set counts 1.
		{"longer than 0", api.Cond{Kind: 4}, eight, true},
		{"longer than 3", api.Cond{Kind: 4, Num: 3}, eight, true},
		{"longer than 4", api.Cond{Kind: 4, Num: 4}, eight, false},
		{"longer than 5", api.Cond{Kind: 4, Num: 5}, eight, false},
		{"longer than 64", api.Cond{Kind: 4, Num: 64}, eight, false},
		{"longer than below 0", api.Cond{Kind: 4, Num: -1}, eight, true},
		{"longer than the least", api.Cond{Kind: 4, Num: math.MinInt}, eight, true},
		{"longer than the greatest", api.Cond{Kind: 4, Num: math.MaxInt}, eight, false},
		// The next one.
		{"next", api.Cond{Kind: 5, Addr: ten | 1}, eight, true},
		{"another next one", api.Cond{Kind: 5, Addr: ten | 2}, eight, false},
		{"no next one", api.Cond{Kind: 5}, eight, false},
		{"next, by another field", api.Cond{Kind: 5, Num: ten | 1}, eight, false},
		// The origin.
		{"origin", api.Cond{Kind: 6, Num: 1}, eight, true},
		{"origin 0", api.Cond{Kind: 6}, eight, false},
		{"origin 2", api.Cond{Kind: 6, Num: 2}, eight, false},
		{"origin 257", api.Cond{Kind: 6, Num: 257}, eight, false},
		{"origin, by another field", api.Cond{Kind: 6, Addr: 1}, eight, false},
		// Other kinds.
		{"kind 7", api.Cond{Kind: 7, Num: 1, Addr: ten | 1}, eight, false},
		{"kind -1", api.Cond{Kind: -1}, eight, false},
		{"kind 256", api.Cond{Kind: 256}, eight, false},
		{"the greatest kind", api.Cond{Kind: math.MaxInt}, eight, false},
		{"the least kind", api.Cond{Kind: math.MinInt}, eight, false},
	} {
		if got := policy.Holds(c.c, c.p, full()); got != c.want {
			t.Error(c.name, got)
		}
		// With Not it is the other way round, of each kind, of those that are none, too.
		c.c.Not = true
		if got := policy.Holds(c.c, c.p, full()); got == c.want {
			t.Error(c.name, "with Not", got)
		}
	}
}

// What holds of attributes of which nothing is said, and of those that are not right.
func TestHoldsOfOtherAttrs(t *testing.T) {
	p := of(ten, 8)
	for _, c := range []struct {
		name string
		c    api.Cond
		a    api.Attrs
		want bool
	}{
		{"no path", api.Cond{Kind: 2, Text: "^$"}, attrs.Zero(), true},
		{"any number", api.Cond{Kind: 2, Text: "."}, attrs.Zero(), false},
		{"no pattern", api.Cond{Kind: 2, Text: "("}, attrs.Zero(), false},
		{"longer than 0", api.Cond{Kind: 4}, attrs.Zero(), false},
		{"longer than -1", api.Cond{Kind: 4, Num: -1}, attrs.Zero(), true},
		{"no next one", api.Cond{Kind: 5}, attrs.Zero(), true},
		{"origin 0", api.Cond{Kind: 6}, attrs.Zero(), true},
		{"no communities", api.Cond{Kind: 3}, attrs.Zero(), true},
		{"a community", api.Cond{Kind: 3, Comms: []uint32{0}}, attrs.Zero(), false},
		{"origin 3", api.Cond{Kind: 6, Num: 3}, api.Attrs{Origin: 3}, true},
		{"origin -1", api.Cond{Kind: 6, Num: -1}, api.Attrs{Origin: -1}, true},
		{"a set of no number counts", api.Cond{Kind: 4}, api.Attrs{Path: []api.Segment{set()}}, true},
		{"a sequence of none does not", api.Cond{Kind: 4}, api.Attrs{Path: []api.Segment{seq()}}, false},
		{"a path longer than may be", api.Cond{Kind: 4, Num: 64}, api.Attrs{Path: []api.Segment{seq(upTo(65)...)}}, true},
		{"just as long as may be", api.Cond{Kind: 4, Num: 64}, api.Attrs{Path: []api.Segment{seq(upTo(64)...)}}, false},
		{"numbers of other segments", api.Cond{Kind: 2, Text: "^7$"}, api.Attrs{Path: []api.Segment{{Kind: 9, AS: []uint32{7}}}}, true},
		{"one of many communities", api.Cond{Kind: 3, Comms: []uint32{100}}, api.Attrs{Comms: upTo(100)}, true},
	} {
		if got := policy.Holds(c.c, p, c.a); got != c.want {
			t.Error(c.name, got)
		}
		c.c.Not = true
		if got := policy.Holds(c.c, p, c.a); got == c.want {
			t.Error(c.name, "with Not", got)
		}
	}
}

// P14.3

func TestDo(t *testing.T) {
	long := full()
	long.Path = []api.Segment{seq(upTo(62)...)}
	segments := full()
	segments.Path = []api.Segment{set(1), set(1), set(1), set(1), set(1), set(1), set(1), set(1)}
	seven := full()
	seven.Path = segments.Path[:7]
	many := full()
	many.Comms = upTo(31)
	most := full()
	most.Comms = upTo(32)
	wrongPath := full()
	wrongPath.Path = []api.Segment{seq()}
	for _, c := range []struct {
		name   string
		d      api.Deed
		a      api.Attrs
		change func(a *api.Attrs)
	}{
		{"pref", api.Deed{Kind: 1, Num: 300, Addr: 9}, full(), func(a *api.Attrs) { a.Pref = 300 }},
		{"pref 0", api.Deed{Kind: 1}, full(), func(a *api.Attrs) { a.Pref = 0 }},
		{"the greatest pref", api.Deed{Kind: 1, Num: math.MaxUint32}, full(), func(a *api.Attrs) { a.Pref = math.MaxUint32 }},
		{"pref of nothing", api.Deed{Kind: 1, Num: 7}, attrs.Zero(), func(a *api.Attrs) { a.Pref = 7 }},
		{"med", api.Deed{Kind: 2, Num: 300, Addr: 9}, full(), func(a *api.Attrs) { a.Med = 300 }},
		{"no med", api.Deed{Kind: 2, Num: -1}, full(), func(a *api.Attrs) { a.Med = -1 }},
		{"med 0", api.Deed{Kind: 2}, full(), func(a *api.Attrs) { a.Med = 0 }},
		{"the greatest med", api.Deed{Kind: 2, Num: math.MaxUint32}, attrs.Zero(), func(a *api.Attrs) { a.Med = math.MaxUint32 }},
		// Ahead of the path.
		{"prepend once", api.Deed{Kind: 3, Num: 1, Addr: 5}, full(), func(a *api.Attrs) { a.Path = []api.Segment{seq(5, 65001, 70000), set(3, 4), seq(9)} }},
		{"prepend twice", api.Deed{Kind: 3, Num: 2, Addr: 5}, full(), func(a *api.Attrs) { a.Path = []api.Segment{seq(5, 5, 65001, 70000), set(3, 4), seq(9)} }},
		{"prepend 8 times", api.Deed{Kind: 3, Num: 8, Addr: 70009}, attrs.Zero(), func(a *api.Attrs) {
			a.Path = []api.Segment{seq(70009, 70009, 70009, 70009, 70009, 70009, 70009, 70009)}
		}},
		{"prepend 0 to no path", api.Deed{Kind: 3, Num: 1}, attrs.Zero(), func(a *api.Attrs) { a.Path = []api.Segment{seq(0)} }},
		{"prepend to a set", api.Deed{Kind: 3, Num: 2, Addr: 5}, seven, func(a *api.Attrs) { a.Path = append([]api.Segment{seq(5, 5)}, seven.Path...) }},
		// As far as there is room: 64 numbers, 8 segments.
		{"prepend to 62 numbers, twice", api.Deed{Kind: 3, Num: 2, Addr: 5}, long, func(a *api.Attrs) { a.Path = []api.Segment{seq(append([]uint32{5, 5}, upTo(62)...)...)} }},
		{"prepend to 62 numbers, three times", api.Deed{Kind: 3, Num: 3, Addr: 5}, long, func(a *api.Attrs) { a.Path = []api.Segment{seq(append([]uint32{5, 5}, upTo(62)...)...)} }},
		{"prepend to 62 numbers, 8 times", api.Deed{Kind: 3, Num: 8, Addr: 5}, long, func(a *api.Attrs) { a.Path = []api.Segment{seq(append([]uint32{5, 5}, upTo(62)...)...)} }},
		{"prepend to 8 sets", api.Deed{Kind: 3, Num: 3, Addr: 5}, segments, func(a *api.Attrs) {}},
		{"prepend to a path that is not right", api.Deed{Kind: 3, Num: 3, Addr: 5}, wrongPath, func(a *api.Attrs) {}},
		// Communities.
		{"add", api.Deed{Kind: 4, Addr: 99, Num: 8}, full(), func(a *api.Attrs) { a.Comms = []uint32{65001<<16 | 7, 0xFFFFFF01, 12, 99} }},
		{"add one that is there", api.Deed{Kind: 4, Addr: 12}, full(), func(a *api.Attrs) {}},
		{"add 0", api.Deed{Kind: 4}, attrs.Zero(), func(a *api.Attrs) { a.Comms = []uint32{0} }},
		{"add the 32nd", api.Deed{Kind: 4, Addr: 99}, many, func(a *api.Attrs) { a.Comms = append(upTo(31), 99) }},
		{"add the 33rd", api.Deed{Kind: 4, Addr: 99}, most, func(a *api.Attrs) {}},
		{"drop", api.Deed{Kind: 5, Addr: 0xFFFFFF01, Num: 8}, full(), func(a *api.Attrs) { a.Comms = []uint32{65001<<16 | 7, 12} }},
		{"drop another one", api.Deed{Kind: 5, Addr: 13}, full(), func(a *api.Attrs) {}},
		{"drop of none", api.Deed{Kind: 5}, attrs.Zero(), func(a *api.Attrs) {}},
		{"clear", api.Deed{Kind: 7, Num: 5, Addr: 12}, full(), func(a *api.Attrs) { a.Comms = nil }},
		{"clear of 32", api.Deed{Kind: 7}, most, func(a *api.Attrs) { a.Comms = nil }},
		{"clear of none", api.Deed{Kind: 7}, attrs.Zero(), func(a *api.Attrs) {}},
		// The next one.
		{"next", api.Deed{Kind: 6, Addr: 11 << 24, Num: 5}, full(), func(a *api.Attrs) { a.Next = 11 << 24 }},
		{"next of nothing", api.Deed{Kind: 6, Addr: 223<<24 | 0xFFFFFF}, attrs.Zero(), func(a *api.Attrs) { a.Next = 223<<24 | 0xFFFFFF }},
	} {
		want := c.a
		c.change(&want)
		if got := policy.Do(c.d, c.a); !attrs.Same(got, want) {
			t.Errorf("%s: %+v", c.name, got)
		}
	}
}

// Deeds that are not right leave all as it is.
func TestDoOfWrongDeeds(t *testing.T) {
	for _, d := range wrongDeeds() {
		for _, a := range []api.Attrs{full(), attrs.Zero(), {}} {
			if got := policy.Do(d, a); !attrs.Same(got, a) {
				t.Errorf("%+v: %+v", d, got)
			}
		}
	}
}
