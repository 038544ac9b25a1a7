package policy_test

import (
	"slices"
	"testing"

	"speculum/api"
	"speculum/attrs"
	"speculum/policy"
)

// P14.4

func pref(n int) []api.Deed { return []api.Deed{{Kind: api.APref, Num: n}} }

func TestApply(t *testing.T) {
	p := of(ten|1<<16, 16)
	within := []api.Cond{{Kind: api.CPrefix, Range: ranges(1)}}
	beside := []api.Cond{{Kind: api.CPrefix, Range: []api.Range{span(of(11<<24, 8), 8, 32)}}}
	origin := func(n int) api.Cond { return api.Cond{Kind: api.COrigin, Num: n} }
	rule := func(verdict int, c []api.Cond, d []api.Deed) api.Rule {
		return api.Rule{Conds: c, Deeds: d, Verdict: verdict}
	}
	for _, c := range []struct {
		name   string
		l      []api.Rule
		ok     bool
		change func(a *api.Attrs)
	}{
		{"no rules", nil, true, func(a *api.Attrs) {}},
		{"an empty list", []api.Rule{}, true, func(a *api.Attrs) {}},
		{"permit", []api.Rule{rule(1, nil, nil)}, true, func(a *api.Attrs) {}},
		{"deny", []api.Rule{rule(2, nil, nil)}, false, nil},
		{"go alone", []api.Rule{rule(3, nil, nil)}, false, nil},
		{"the example", []api.Rule{rule(1, within, pref(300)), rule(2, nil, nil)}, true, func(a *api.Attrs) { a.Pref = 300 }},
		{"none holds", []api.Rule{rule(1, beside, pref(300)), rule(3, beside, nil), rule(1, beside, nil)}, false, nil},
		{"the second one holds", []api.Rule{rule(1, beside, pref(300)), rule(1, within, pref(400))}, true, func(a *api.Attrs) { a.Pref = 400 }},
		{"the first one that holds", []api.Rule{rule(1, within, pref(300)), rule(1, within, pref(400))}, true, func(a *api.Attrs) { a.Pref = 300 }},
		{"deny ahead of permit", []api.Rule{rule(2, within, nil), rule(1, nil, nil)}, false, nil},
		{"deny that does not hold", []api.Rule{rule(2, beside, nil), rule(1, nil, nil)}, true, func(a *api.Attrs) {}},
		{"deny with deeds", []api.Rule{rule(2, nil, pref(300)), rule(1, nil, nil)}, false, nil},
		{"go, then permit", []api.Rule{rule(3, nil, pref(300)), rule(1, nil, []api.Deed{{Kind: api.AMed, Num: 9}})}, true, func(a *api.Attrs) { a.Pref, a.Med = 300, 9 }},
		{"go, then deny", []api.Rule{rule(3, nil, pref(300)), rule(2, nil, nil)}, false, nil},
		{"go, and go", []api.Rule{rule(3, nil, pref(300)), rule(3, nil, pref(400))}, false, nil},
		{"go twice, then permit", []api.Rule{rule(3, nil, pref(300)), rule(3, nil, pref(400)), rule(1, nil, nil)}, true, func(a *api.Attrs) { a.Pref = 400 }},
		{"go that does not hold does nothing", []api.Rule{rule(3, beside, pref(300)), rule(1, nil, nil)}, true, func(a *api.Attrs) {}},
		{"deny behind permit", []api.Rule{rule(1, nil, nil), rule(2, nil, nil)}, true, func(a *api.Attrs) {}},
		// All conditions hold, or nothing is done.
		{"two that hold", []api.Rule{rule(1, []api.Cond{within[0], origin(1)}, pref(300))}, true, func(a *api.Attrs) { a.Pref = 300 }},
		{"the second one does not", []api.Rule{rule(1, []api.Cond{within[0], origin(2)}, pref(300))}, false, nil},
		{"the first one does not", []api.Rule{rule(1, []api.Cond{beside[0], origin(1)}, pref(300))}, false, nil},
		{"the last one of three does not", []api.Rule{rule(3, []api.Cond{within[0], origin(1), origin(0)}, pref(300)), rule(1, nil, nil)}, true, func(a *api.Attrs) {}},
		{"all but with Not", []api.Rule{rule(1, []api.Cond{within[0], {Kind: api.COrigin, Num: 2, Not: true}}, nil)}, true, func(a *api.Attrs) {}},
		{"not any", []api.Rule{rule(1, []api.Cond{{Not: true}}, nil)}, false, nil},
		// Deeds, one behind the other.
		{"the last deed counts", []api.Rule{rule(1, nil, append(pref(300), pref(400)...))}, true, func(a *api.Attrs) { a.Pref = 400 }},
		{"clear, then add", []api.Rule{rule(1, nil, []api.Deed{{Kind: api.AClear}, {Kind: api.AAdd, Addr: 7}})}, true, func(a *api.Attrs) { a.Comms = []uint32{7} }},
		{"add, then clear", []api.Rule{rule(1, nil, []api.Deed{{Kind: api.AAdd, Addr: 7}, {Kind: api.AClear}})}, true, func(a *api.Attrs) { a.Comms = nil }},
		{"prepend of two", []api.Rule{rule(1, nil, []api.Deed{{Kind: api.APrepend, Num: 1, Addr: 7}, {Kind: api.APrepend, Num: 2, Addr: 8}})}, true, func(a *api.Attrs) {
			a.Path = []api.Segment{seq(8, 8, 7, 65001, 70000), set(3, 4), seq(9)}
		}},
		// What was done by then is what the next rules ask of.
		{"asked of what was done", []api.Rule{rule(3, nil, []api.Deed{{Kind: api.AAdd, Addr: 7}}), rule(2, []api.Cond{{Kind: api.CComm, Comms: []uint32{7}, Not: true}}, nil), rule(1, nil, nil)}, true, func(a *api.Attrs) { a.Comms = append(a.Comms, 7) }},
		{"next that was done", []api.Rule{rule(3, nil, []api.Deed{{Kind: api.ANext, Addr: 11 << 24}}), rule(1, []api.Cond{{Kind: api.CNext, Addr: 11 << 24}}, pref(1))}, true, func(a *api.Attrs) { a.Next, a.Pref = 11<<24, 1 }},
		{"longer by what was done", []api.Rule{rule(1, []api.Cond{{Kind: api.CLonger, Num: 4}}, nil), rule(3, nil, []api.Deed{{Kind: api.APrepend, Num: 1, Addr: 7}}), rule(1, []api.Cond{{Kind: api.CLonger, Num: 4}, {Kind: api.CRegex, Text: "^7 65001"}}, pref(1))}, true, func(a *api.Attrs) {
			a.Path, a.Pref = []api.Segment{seq(7, 65001, 70000), set(3, 4), seq(9)}, 1
		}},
		{"not by its own deeds", []api.Rule{rule(1, []api.Cond{{Kind: api.CComm, Comms: []uint32{7}}}, []api.Deed{{Kind: api.AAdd, Addr: 7}}), rule(2, nil, nil)}, false, nil},
		// As many as may be.
		{"16 rules, the last one permits", append(slices.Repeat([]api.Rule{rule(3, nil, []api.Deed{{Kind: api.APrepend, Num: 1, Addr: 7}})}, 15), rule(1, nil, nil)), true, func(a *api.Attrs) {
			a.Path = []api.Segment{seq(append(slices.Repeat([]uint32{7}, 15), 65001, 70000)...), set(3, 4), seq(9)}
		}},
		{"17 rules", append(slices.Repeat([]api.Rule{rule(3, nil, nil)}, 16), rule(1, nil, nil)), false, nil},
		{"17 rules, the first one permits", slices.Repeat([]api.Rule{rule(1, nil, nil)}, 17), false, nil},
	} {
		a := full()
		got, ok := policy.Apply(c.l, p, a)
		if c.change == nil {
			a = api.Attrs{}
		} else {
			c.change(&a)
		}
		if ok != c.ok || !attrs.Same(got, a) {
			t.Errorf("%s: %+v, %v", c.name, got, ok)
		}
	}
}

// Rules that are not right let nothing through, even where one that is right would, ahead of the wrong one.
func TestApplyOfWrongRules(t *testing.T) {
	p := of(ten, 8)
	refused := func(l ...api.Rule) {
		if got, ok := policy.Apply(l, p, full()); ok || !none(got) {
			t.Errorf("%+v: %+v", l, got)
		}
	}
	all := api.Rule{Verdict: api.Permit}
	for _, c := range wrongConds() {
		refused(permit([]api.Cond{c}, nil))
		refused(all, permit([]api.Cond{c}, nil))
		refused(permit([]api.Cond{c}, nil), all)
	}
	for _, d := range wrongDeeds() {
		refused(permit(nil, []api.Deed{d}))
		refused(all, permit(nil, []api.Deed{d}))
		refused(permit([]api.Cond{{Not: true}}, []api.Deed{d}), all)
	}
	for _, verdict := range []int{0, 4, -1, 257} {
		refused(api.Rule{Verdict: verdict})
		refused(all, api.Rule{Verdict: verdict})
	}
	refused(permit(make([]api.Cond, 17), nil))
	refused(permit(nil, slices.Repeat([]api.Deed{{Kind: 7}}, 17)))
	refused(api.Rule{})
}

// Attributes that are not right are gone on with as they are.
func TestApplyOfWrongAttrs(t *testing.T) {
	p := of(1, 0)
	wrong := api.Attrs{Origin: 9, Path: []api.Segment{{Kind: 7, AS: upTo(70)}, seq()}, Med: -5, Pref: 1 << 40, AggrAS: 1, Comms: upTo(40), Raws: []api.Raw{{Type: 1}}}
	for name, l := range map[string][]api.Rule{
		"no rules": nil, "permit": {{Verdict: 1}}, "prepend": {permit(nil, []api.Deed{{Kind: 3, Num: 8, Addr: 1}})}, "add": {permit(nil, []api.Deed{{Kind: 4, Addr: 99}})},
	} {
		if got, ok := policy.Apply(l, p, wrong); !ok || !attrs.Same(got, wrong) {
			t.Errorf("%s: %+v, %v", name, got, ok)
		}
	}
	want := wrong
	want.Pref, want.Comms = 5, nil
	if got, ok := policy.Apply([]api.Rule{permit([]api.Cond{{Kind: 6, Not: true}, {Kind: 4, Num: 64}}, []api.Deed{{Kind: 1, Num: 5}, {Kind: 7}})}, p, wrong); !ok || !attrs.Same(got, want) {
		t.Errorf("%+v, %v", got, ok)
	}
}

// chance is numbers that come the same each time.
type chance uint32

func (x *chance) below(n int) int {
	*x ^= *x << 13
	*x ^= *x >> 17
	*x ^= *x << 5
	return int(uint32(*x) % uint32(n))
}

func pick[T any](x *chance, l []T) T { return l[x.below(len(l))] }

func (x *chance) cond() api.Cond {
	texts := []string{"", "^1", "2", "3 .*$", "^$", "[^1]", "1 (2|3)*$"}
	lists := [][]api.Range{nil, ranges(1), {span(of(0, 0), 0, 32)}, {span(of(11<<24, 8), 8, 32), span(of(ten, 8), 16, 16)}}
	return api.Cond{Kind: x.below(7), Not: x.below(3) == 0, Num: x.below(3), Addr: ten | uint32(x.below(3)), Text: pick(x, texts), Range: pick(x, lists), Comms: upTo(x.below(3))}
}

func (x *chance) deed() api.Deed {
	return api.Deed{Kind: 1 + x.below(7), Num: 1 + x.below(8), Addr: ten | uint32(x.below(3))}
}

// few is up to so many, made one by one.
func few[T any](x *chance, most int, one func() T) []T {
	var out []T
	for range x.below(most + 1) {
		out = append(out, one())
	}
	return out
}

func (x *chance) rule() api.Rule {
	return api.Rule{Conds: few(x, 3, x.cond), Deeds: few(x, 4, x.deed), Verdict: 1 + x.below(3)}
}

func (x *chance) segment() api.Segment {
	return api.Segment{Kind: 1 + x.below(2), AS: upTo(1 + x.below(8))}
}

// attrs is right ones, some of them at the ends of what may be.
func (x *chance) attrs() api.Attrs {
	a := attrs.Zero()
	a.Origin, a.Next, a.Med, a.Pref = x.below(3), ten|uint32(x.below(3)), x.below(4)-1, x.below(4)-1
	a.Path, a.Comms = few(x, 8, x.segment), upTo(x.below(33))
	if x.below(2) == 0 {
		a.HasAggr, a.AggrAS, a.Raws = true, 5, full().Raws
	}
	return a
}

func (x *chance) prefix() api.Prefix {
	return pick(x, []api.Prefix{of(ten, 8), of(ten, 16), of(ten, 25), of(11<<24, 8), of(0, 0), of(1, 32)})
}

// inTurn is what becomes of a route by the words of P14.4, rule by rule.
func inTurn(l []api.Rule, p api.Prefix, a api.Attrs) (api.Attrs, bool) {
	if len(l) == 0 {
		return api.Attrs{}, false
	}
	holds := 0
	for _, c := range l[0].Conds {
		if policy.Holds(c, p, a) {
			holds++
		}
	}
	if holds < len(l[0].Conds) {
		return inTurn(l[1:], p, a)
	}
	for _, d := range l[0].Deeds {
		a = policy.Do(d, a)
	}
	if l[0].Verdict == api.Go {
		return inTurn(l[1:], p, a)
	}
	if l[0].Verdict == api.Deny {
		return api.Attrs{}, false
	}
	return a, true
}

// P14.4 once more, and P14.5: what is permitted of right attributes is right.
func TestApplyInTurn(t *testing.T) {
	x := chance(7)
	permitted, denied := 0, 0
	for range 20000 {
		l := append(few(&x, 5, x.rule), x.rule())
		p, a := x.prefix(), x.attrs()
		got, ok := policy.Apply(l, p, a)
		want, wantOk := inTurn(l, p, a)
		if ok != wantOk || !attrs.Same(got, want) {
			t.Fatalf("%+v\n%+v %+v\n%+v %v", l, p, a, got, ok)
		}
		if again, twice := policy.Apply(l, p, a); twice != ok || !attrs.Same(again, got) {
			t.Fatal("told otherwise again")
		}
		if !ok {
			denied++
			continue
		}
		permitted++
		if !attrs.Right(got) || !attrs.Right(a) {
			t.Fatalf("%+v\n%+v\n%+v", l, a, got)
		}
	}
	if permitted < 4000 || denied < 4000 {
		t.Error(permitted, denied)
	}
}

// P14.5

func TestAnyLetsAllThrough(t *testing.T) {
	x := chance(8)
	all := []api.Rule{permit([]api.Cond{{Kind: api.CAny}}, nil)}
	for _, a := range []api.Attrs{full(), attrs.Zero(), {}, {Origin: 9, Comms: upTo(50), Pref: -9}} {
		if got, ok := policy.Apply(all, of(1, 0), a); !ok || !attrs.Same(got, a) {
			t.Error(a, got, ok)
		}
	}
	for range 1000 {
		a := x.attrs()
		if got, ok := policy.Apply(all, x.prefix(), a); !ok || !attrs.Same(got, a) {
			t.Fatal(a, got, ok)
		}
	}
}

// Each deed leaves right attributes right, at the ends of what may be, too.
func TestDeedsLeaveRight(t *testing.T) {
	edges := []api.Attrs{full(), attrs.Zero()}
	for _, path := range [][]api.Segment{{seq(upTo(64)...)}, {set(upTo(64)...)}, slices.Repeat([]api.Segment{set(1)}, 8), slices.Repeat([]api.Segment{seq(1)}, 8), {set(upTo(63)...)}, {seq(upTo(57)...)}} {
		a := full()
		a.Path, a.Comms = path, upTo(32)
		edges = append(edges, a)
	}
	for _, a := range edges {
		for _, d := range slices.Concat(rightDeeds(), wrongDeeds()) {
			got := policy.Do(d, a)
			if !attrs.Right(got) {
				t.Errorf("%+v %+v", d, got)
			}
			if policy.RightDeed(d) {
				if again, ok := policy.Apply([]api.Rule{permit(nil, []api.Deed{d})}, of(0, 0), a); !ok || !attrs.Same(again, got) {
					t.Errorf("%+v %+v %v", d, again, ok)
				}
			}
		}
	}
}

// Rule 3: nil and empty lists are one.
func TestEmptyLists(t *testing.T) {
	p := of(ten, 8)
	lists := func(c api.Cond) bool {
		filled := c
		filled.Range, filled.Comms = []api.Range{}, []uint32{}
		bare, empty := attrs.Zero(), attrs.Zero()
		empty.Path, empty.Comms, empty.Raws = []api.Segment{}, []uint32{}, []api.Raw{}
		held := policy.Holds(c, p, bare)
		return policy.RightCond(c) == policy.RightCond(filled) && policy.Holds(filled, p, bare) == held && policy.Holds(c, p, empty) == held
	}
	for kind := -1; kind <= 7; kind++ {
		if !lists(api.Cond{Kind: kind}) || !lists(api.Cond{Kind: kind, Not: true}) || !lists(api.Cond{Kind: kind, Text: "^$"}) {
			t.Error(kind)
		}
	}
	a := attrs.Zero()
	a.Path, a.Comms, a.Raws = []api.Segment{}, []uint32{}, []api.Raw{}
	for _, d := range slices.Concat(rightDeeds(), wrongDeeds()) {
		if !attrs.Same(policy.Do(d, a), policy.Do(d, attrs.Zero())) {
			t.Error(d)
		}
	}
	for _, l := range [][]api.Rule{nil, {}, {{Verdict: 1}}, {permit([]api.Cond{}, []api.Deed{})}} {
		if got, ok := policy.Apply(l, p, full()); !ok || !attrs.Same(got, full()) || !policy.Right(l) {
			t.Error(l, got, ok)
		}
	}
}

// Rule 4: neither what is handed in is changed, nor the room behind a list's end.
func TestChangesNothing(t *testing.T) {
	comms := []uint32{1, 2, 3, 70, 80}
	numbers := []uint32{5, 6, 90, 91}
	path := []api.Segment{seq(numbers[:2]...), set(1), seq(2)}
	given := func() api.Attrs {
		a := full()
		a.Path, a.Comms = path[:2], comms[:3]
		return a
	}
	left := func(name string) {
		if !slices.Equal(comms, []uint32{1, 2, 3, 70, 80}) || !slices.Equal(numbers, []uint32{5, 6, 90, 91}) || path[0].Kind != api.Seq || len(path[0].AS) != 2 || path[1].Kind != api.Set || path[2].Kind != api.Seq || path[2].AS[0] != 2 {
			t.Fatal(name, comms, numbers, path)
		}
	}
	deeds := []api.Deed{{Kind: 1, Num: 7}, {Kind: 2, Num: 7}, {Kind: 3, Num: 8, Addr: 7}, {Kind: 4, Addr: 7}, {Kind: 5, Addr: 1}, {Kind: 5, Addr: 3}, {Kind: 6, Addr: ten}, {Kind: 7}, {Kind: 9}}
	for _, d := range deeds {
		first := policy.Do(d, given())
		left("Do")
		// Two made of one do not meddle with each other, nor with it.
		one, other := policy.Do(api.Deed{Kind: 4, Addr: 100}, first), policy.Do(api.Deed{Kind: 4, Addr: 200}, first)
		one, other = policy.Do(api.Deed{Kind: 3, Num: 2, Addr: 100}, one), policy.Do(api.Deed{Kind: 3, Num: 2, Addr: 200}, other)
		if one.Comms[len(one.Comms)-1] != 100 || other.Comms[len(other.Comms)-1] != 200 || one.Path[0].AS[0] != 100 || other.Path[0].AS[1] != 200 || !attrs.Same(first, policy.Do(d, given())) {
			t.Error(d, one, other, first)
		}
		left("Do twice")
	}
	conds := []api.Cond{{}, {Kind: 3, Comms: comms[:1]}, {Kind: 9}}
	rules := []api.Rule{{Conds: conds[:2], Deeds: deeds[:8], Verdict: api.Go}, {Verdict: api.Permit}, {}}
	got, ok := policy.Apply(rules[:2], of(ten, 8), given())
	left("Apply")
	if !ok || len(got.Comms) != 0 || len(got.Path) != 2 || conds[2].Kind != 9 || deeds[8].Kind != 9 || rules[2].Verdict != 0 || len(rules[0].Deeds) != 8 {
		t.Error(got, ok)
	}
	for _, c := range rightConds() {
		policy.Holds(c, of(ten, 8), given())
		policy.RightCond(c)
		left("Holds")
	}
}

// Rule 6: no call panics, whatever it is handed.
func TestWhateverComes(t *testing.T) {
	odd := []api.Attrs{{}, full(), {Origin: -1 << 62, Path: []api.Segment{{}, seq(), {Kind: -1, AS: upTo(300)}}, Med: -1 << 62, Pref: 1 << 62, Comms: upTo(300), Raws: []api.Raw{{}, {}}}}
	prefixes := []api.Prefix{{}, of(1, -1), of(1<<32-1, 1<<62), of(ten, -1<<62)}
	for _, a := range odd {
		for _, p := range prefixes {
			for _, c := range slices.Concat(rightConds(), wrongConds()) {
				policy.Holds(c, p, a)
				policy.Apply([]api.Rule{permit([]api.Cond{c}, nil)}, p, a)
			}
			for _, d := range slices.Concat(rightDeeds(), wrongDeeds()) {
				policy.Do(d, a)
				policy.Apply([]api.Rule{permit(nil, []api.Deed{d})}, p, a)
			}
		}
	}
}
