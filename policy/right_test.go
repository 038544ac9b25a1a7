package policy_test

import (
	"math"
	"slices"
	"strings"
	"testing"

	"speculum/api"
	"speculum/filter"
	"speculum/policy"
)

const ten = 10 << 24

func of(addr uint32, n int) api.Prefix { return api.Prefix{Addr: addr, Len: n} }

func span(p api.Prefix, from, to int) api.Range { return api.Range{Prefix: p, Min: from, Max: to} }

func seq(as ...uint32) api.Segment { return api.Segment{Kind: api.Seq, AS: as} }

func set(as ...uint32) api.Segment { return api.Segment{Kind: api.Set, AS: as} }

// upTo is the numbers from 1 on.
func upTo(n int) []uint32 {
	var out []uint32
	for i := range n {
		out = append(out, uint32(i+1))
	}
	return out
}

// ranges is so many that are right.
func ranges(n int) []api.Range { return slices.Repeat([]api.Range{span(of(ten, 8), 8, 24)}, n) }

// rightConds is conditions that are right, of each kind, at the ends of what may be.
func rightConds() []api.Cond {
	return []api.Cond{
		{}, {Kind: api.CAny}, {Kind: 0, Not: true},
		{Kind: 1}, {Kind: 1, Range: []api.Range{}}, {Kind: 1, Range: ranges(1)}, {Kind: 1, Range: ranges(15)}, {Kind: 1, Range: ranges(16)}, {Kind: 1, Range: []api.Range{span(of(0, 0), 0, 32), span(of(1, 32), 32, 32), {}}}, {Kind: 1, Not: true, Range: ranges(16)},
		{Kind: 2}, {Kind: 2, Text: "1 (2|3)*$"}, {Kind: 2, Text: "^$"}, {Kind: 2, Text: strings.Repeat(".", 100)}, {Kind: 2, Text: " _ "}, {Kind: 2, Text: "4294967295"}, {Kind: 2, Not: true, Text: "[^1-2]"},
		{Kind: 3}, {Kind: 3, Comms: []uint32{}}, {Kind: 3, Comms: []uint32{0xFFFFFF01}}, {Kind: 3, Comms: upTo(31)}, {Kind: 3, Comms: upTo(32)}, {Kind: 3, Comms: make([]uint32, 32)}, {Kind: 3, Not: true, Comms: upTo(32)},
		{Kind: 4}, {Kind: 4, Num: 1}, {Kind: 4, Num: 63}, {Kind: 4, Num: 64}, {Kind: 4, Not: true, Num: 64},
		{Kind: 5}, {Kind: 5, Addr: ten | 1}, {Kind: 5, Addr: 127 << 24}, {Kind: 5, Addr: math.MaxUint32}, {Kind: 5, Not: true},
		{Kind: 6}, {Kind: 6, Num: 1}, {Kind: 6, Num: 2}, {Kind: 6, Not: true, Num: 2},
		// What a kind has not is not asked for.
		{Kind: 0, Num: -1, Addr: 1, Text: "(", Range: wrongRanges(), Comms: upTo(33)},
		{Kind: 1, Num: 99, Addr: 1, Text: "(", Range: ranges(2), Comms: upTo(33)},
		{Kind: 2, Num: -9, Addr: 1, Text: "1", Range: ranges(17), Comms: upTo(33)},
		{Kind: 3, Num: 99, Addr: 1, Text: "(", Range: wrongRanges(), Comms: upTo(3)},
		{Kind: 4, Num: 64, Addr: 1, Text: "(", Range: wrongRanges(), Comms: upTo(33)},
		{Kind: 5, Num: -1, Addr: 1, Text: "(", Range: ranges(17), Comms: upTo(33)},
		{Kind: 6, Num: 2, Addr: 1, Text: "(", Range: wrongRanges(), Comms: upTo(33)},
	}
}

// wrongRanges is a range, and one that is not right.
func wrongRanges() []api.Range {
	return []api.Range{span(of(ten, 8), 8, 24), span(of(ten, 8), 7, 24)}
}

// wrongConds is conditions that are not right, each for one reason.
func wrongConds() []api.Cond {
	return []api.Cond{
		// Kinds that are none.
		{Kind: -1}, {Kind: 7}, {Kind: 8}, {Kind: 256}, {Kind: 1 << 32}, {Kind: math.MaxInt}, {Kind: math.MinInt}, {Kind: 7, Not: true}, {Kind: -1, Not: true},
		{Kind: 1, Range: ranges(17)}, {Kind: 1, Range: ranges(100)}, {Kind: 1, Range: wrongRanges()}, {Kind: 1, Range: []api.Range{span(of(ten, 8), 8, 33), span(of(ten, 8), 8, 24)}}, {Kind: 1, Range: []api.Range{span(of(ten|1, 8), 8, 24)}}, {Kind: 1, Range: []api.Range{span(of(ten, 8), 24, 8)}}, {Kind: 1, Range: append(ranges(15), span(of(ten, 33), 33, 33))}, {Kind: 1, Not: true, Range: ranges(17)},
		{Kind: 2, Text: "("}, {Kind: 2, Text: "a"}, {Kind: 2, Text: "01"}, {Kind: 2, Text: "[]"}, {Kind: 2, Text: "4294967296"}, {Kind: 2, Text: "\xff"}, {Kind: 2, Text: "*"}, {Kind: 2, Text: strings.Repeat(".", 101)}, {Kind: 2, Text: strings.Repeat(" ", 101)}, {Kind: 2, Not: true, Text: ")"},
		{Kind: 3, Comms: upTo(33)}, {Kind: 3, Comms: make([]uint32, 33)}, {Kind: 3, Comms: upTo(1000)}, {Kind: 3, Not: true, Comms: upTo(33)},
		{Kind: 4, Num: -1}, {Kind: 4, Num: 65}, {Kind: 4, Num: 1 << 32}, {Kind: 4, Num: math.MaxInt}, {Kind: 4, Num: math.MinInt}, {Kind: 4, Not: true, Num: 65},
		{Kind: 6, Num: -1}, {Kind: 6, Num: 3}, {Kind: 6, Num: 256}, {Kind: 6, Num: math.MaxInt}, {Kind: 6, Num: math.MinInt}, {Kind: 6, Not: true, Num: 3},
	}
}

// rightDeeds is deeds that are right, of each kind, at the ends of what may be.
func rightDeeds() []api.Deed {
	return []api.Deed{
		{Kind: api.APref}, {Kind: 1, Num: 1}, {Kind: 1, Num: 200}, {Kind: 1, Num: math.MaxUint32}, {Kind: 1, Num: math.MaxUint32 - 1},
		{Kind: api.AMed, Num: -1}, {Kind: 2}, {Kind: 2, Num: 1}, {Kind: 2, Num: math.MaxUint32},
		{Kind: api.APrepend, Num: 1}, {Kind: 3, Num: 2, Addr: 65001}, {Kind: 3, Num: 7, Addr: math.MaxUint32}, {Kind: 3, Num: 8, Addr: 5},
		{Kind: api.AAdd}, {Kind: 4, Addr: 0xFFFFFF01}, {Kind: api.ADrop}, {Kind: 5, Addr: math.MaxUint32},
		{Kind: api.ANext, Addr: ten | 1}, {Kind: 6, Addr: 1 << 24}, {Kind: 6, Addr: 126<<24 | 0xFFFFFF}, {Kind: 6, Addr: 128 << 24}, {Kind: 6, Addr: 223<<24 | 0xFFFFFF},
		{Kind: api.AClear},
		// What a kind has not is not asked for.
		{Kind: 1, Num: 5, Addr: 7}, {Kind: 2, Num: -1, Addr: 7}, {Kind: 4, Num: -5, Addr: 7}, {Kind: 4, Num: math.MaxInt}, {Kind: 5, Num: math.MinInt}, {Kind: 6, Num: -7, Addr: ten | 1}, {Kind: 7, Num: -1, Addr: math.MaxUint32},
	}
}

// wrongDeeds is deeds that are not right, each for one reason.
func wrongDeeds() []api.Deed {
	return []api.Deed{
		// Kinds that are none.
		{}, {Kind: 0, Num: 1}, {Kind: -1}, {Kind: 8}, {Kind: 9, Num: 1, Addr: ten}, {Kind: 257}, {Kind: 1<<32 + 1}, {Kind: math.MaxInt}, {Kind: math.MinInt},
		{Kind: 1, Num: -1}, {Kind: 1, Num: -2}, {Kind: 1, Num: 1 << 32}, {Kind: 1, Num: math.MaxInt}, {Kind: 1, Num: math.MinInt},
		{Kind: 2, Num: -2}, {Kind: 2, Num: 1 << 32}, {Kind: 2, Num: math.MaxInt}, {Kind: 2, Num: math.MinInt},
		{Kind: 3, Num: 0, Addr: 5}, {Kind: 3, Num: -1, Addr: 5}, {Kind: 3, Num: 9, Addr: 5}, {Kind: 3, Num: 257, Addr: 5}, {Kind: 3, Num: math.MaxInt, Addr: 5}, {Kind: 3, Num: math.MinInt, Addr: 5},
		{Kind: 6}, {Kind: 6, Addr: 1<<24 - 1}, {Kind: 6, Addr: 127 << 24}, {Kind: 6, Addr: 127<<24 | 1}, {Kind: 6, Addr: 224 << 24}, {Kind: 6, Addr: math.MaxUint32},
	}
}

// P14.1

func TestRightCond(t *testing.T) {
	for _, c := range rightConds() {
		if !policy.RightCond(c) {
			t.Errorf("%+v", c)
		}
	}
	for _, c := range wrongConds() {
		if policy.RightCond(c) {
			t.Errorf("%+v", c)
		}
	}
	for n := -5; n <= 70; n++ {
		if policy.RightCond(api.Cond{Kind: 4, Num: n}) != (n >= 0 && n <= 64) || policy.RightCond(api.Cond{Kind: 6, Num: n}) != (n >= 0 && n <= 2) || policy.RightCond(api.Cond{Kind: n}) != (n >= 0 && n <= 6) {
			t.Error(n)
		}
	}
	if api.CAny != 0 || api.CPrefix != 1 || api.CRegex != 2 || api.CComm != 3 || api.CLonger != 4 || api.CNext != 5 || api.COrigin != 6 {
		t.Error("kinds")
	}
}

func TestRightDeed(t *testing.T) {
	for _, d := range rightDeeds() {
		if !policy.RightDeed(d) {
			t.Errorf("%+v", d)
		}
	}
	for _, d := range wrongDeeds() {
		if policy.RightDeed(d) {
			t.Errorf("%+v", d)
		}
	}
	for n := -5; n <= 300; n++ {
		if policy.RightDeed(api.Deed{Kind: 3, Num: n}) != (n >= 1 && n <= 8) || policy.RightDeed(api.Deed{Kind: 1, Num: n}) != (n >= 0) || policy.RightDeed(api.Deed{Kind: 2, Num: n}) != (n >= -1) || policy.RightDeed(api.Deed{Kind: n, Num: 1, Addr: ten}) != (n >= 1 && n <= 7) {
			t.Error(n)
		}
	}
	for first := range uint32(256) {
		want := first != 0 && first != 127 && first < 224
		if policy.RightDeed(api.Deed{Kind: 6, Addr: first << 24}) != want || policy.RightDeed(api.Deed{Kind: 6, Addr: first<<24 | 0xFFFFFF}) != want {
			t.Error(first)
		}
	}
	if api.APref != 1 || api.AMed != 2 || api.APrepend != 3 || api.AAdd != 4 || api.ADrop != 5 || api.ANext != 6 || api.AClear != 7 {
		t.Error("kinds")
	}
}

// permit is a rule that permits.
func permit(c []api.Cond, d []api.Deed) api.Rule {
	return api.Rule{Conds: c, Deeds: d, Verdict: api.Permit}
}

func TestRight(t *testing.T) {
	conds := func(n int) []api.Cond { return make([]api.Cond, n) }
	deeds := func(n int) []api.Deed { return slices.Repeat([]api.Deed{{Kind: 7}}, n) }
	rules := func(n int) []api.Rule { return slices.Repeat([]api.Rule{{Verdict: 2}}, n) }
	for name, l := range map[string][]api.Rule{
		"none": nil, "empty": {}, "permit": {{Verdict: 1}}, "deny": {{Verdict: 2}}, "go": {{Verdict: 3}}, "all three": {{Verdict: 3}, {Verdict: 2}, {Verdict: 1}},
		"15 rules": rules(15), "16 rules": rules(16), "16 conditions": {permit(conds(16), nil)}, "16 deeds": {permit(nil, deeds(16))}, "16 of all": slices.Repeat([]api.Rule{permit(conds(16), deeds(16))}, 16),
		"empty lists": {permit([]api.Cond{}, []api.Deed{})}, "right ones": {permit(rightConds()[:16], rightDeeds()[:16]), permit(rightConds()[16:32], rightDeeds()[16:])},
	} {
		if !policy.Right(l) {
			t.Error(name)
		}
	}
	for name, l := range map[string][]api.Rule{
		"17 rules": rules(17), "200 rules": rules(200), "17 conditions": {permit(conds(17), nil)}, "17 deeds": {permit(nil, deeds(17))}, "17 conditions in the last one": append(rules(15), permit(conds(17), nil)), "17 deeds in the last one": append(rules(15), permit(nil, deeds(17))),
		"no verdict": {{}}, "verdict 4": {{Verdict: 4}}, "verdict -1": {{Verdict: -1}}, "verdict 257": {{Verdict: 257}}, "greatest verdict": {{Verdict: math.MaxInt}}, "least verdict": {{Verdict: math.MinInt}}, "no verdict in the last one": append(rules(3), api.Rule{}), "no verdict in the first one": append([]api.Rule{{}}, rules(3)...),
	} {
		if policy.Right(l) {
			t.Error(name)
		}
	}
	// One that is not right among others that are, wherever it stands.
	for _, c := range wrongConds() {
		if policy.Right([]api.Rule{permit([]api.Cond{c}, nil)}) || policy.Right([]api.Rule{{Verdict: 3}, permit([]api.Cond{{}, c, {}}, nil), {Verdict: 1}}) || policy.Right([]api.Rule{permit(append(conds(15), c), nil)}) {
			t.Errorf("%+v", c)
		}
	}
	for _, d := range wrongDeeds() {
		if policy.Right([]api.Rule{permit(nil, []api.Deed{d})}) || policy.Right([]api.Rule{{Verdict: 3}, permit(nil, []api.Deed{{Kind: 7}, d, {Kind: 7}}), {Verdict: 1}}) || policy.Right([]api.Rule{permit(nil, append(deeds(15), d))}) {
			t.Errorf("%+v", d)
		}
	}
	for _, c := range rightConds() {
		if !policy.Right([]api.Rule{permit([]api.Cond{c}, nil)}) {
			t.Errorf("%+v", c)
		}
	}
	for _, d := range rightDeeds() {
		if !policy.Right([]api.Rule{permit(nil, []api.Deed{d})}) {
			t.Errorf("%+v", d)
		}
	}
	if api.Permit != 1 || api.Deny != 2 || api.Go != 3 {
		t.Error("verdicts")
	}
}

// Ranges are right one by one, as filter tells.
func TestRightCondAsksFilter(t *testing.T) {
	for n := -1; n <= 33; n++ {
		for from := -1; from <= 33; from++ {
			for to := -1; to <= 33; to++ {
				x := span(of(0, n), from, to)
				if policy.RightCond(api.Cond{Kind: 1, Range: []api.Range{{}, x}}) != filter.Right(x) {
					t.Fatal(x)
				}
			}
		}
	}
}
