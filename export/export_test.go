package export_test

import (
	"math"
	"slices"
	"testing"

	"speculum/api"
	"speculum/aspath"
	"speculum/attrs"
	"speculum/export"
	"speculum/policy"
)

const (
	noExport    = 0xFFFFFF01
	noAdvertise = 0xFFFFFF02
	localAS     = 0xFFFFFF03
)

var (
	us    = api.Local{AS: 65001, Id: 1, Addr: 10<<24 | 1, Hold: 90}
	inner = api.Peer{AS: 65001, Addr: 20 << 24}
	outer = api.Peer{AS: 65003, Addr: 30 << 24}
	ten   = api.Prefix{Addr: 10 << 24, Len: 8}
)

func seq(l ...uint32) api.Segment { return api.Segment{Kind: api.Seq, AS: l} }
func set(l ...uint32) api.Segment { return api.Segment{Kind: api.Set, AS: l} }

func permit(d ...api.Deed) []api.Rule {
	return []api.Rule{{Deeds: d, Verdict: api.Permit}}
}

var deny = []api.Rule{{Verdict: api.Deny}}

func upTo(n int) []uint32 {
	var out []uint32
	for i := range n {
		out = append(out, uint32(i+1))
	}
	return out
}

// full is attributes of which all is told.
func full(change ...func(a *api.Attrs)) api.Attrs {
	a := api.Attrs{
		Origin: 1, Path: []api.Segment{seq(65002, 70000), set(3, 4)}, Next: 40 << 24, Med: 9, Pref: 300, Atomic: true,
		HasAggr: true, AggrAS: 5, AggrAddr: 6, Comms: []uint32{7, 8}, Raws: []api.Raw{{Flags: 224, Type: 99, Data: []byte{1, 2}}},
	}
	for _, f := range change {
		f(&a)
	}
	return a
}

func path(l ...api.Segment) func(*api.Attrs) { return func(a *api.Attrs) { a.Path = l } }
func comms(l ...uint32) func(*api.Attrs)     { return func(a *api.Attrs) { a.Comms = l } }
func pref(n int) func(*api.Attrs)            { return func(a *api.Attrs) { a.Pref = n } }
func med(n int) func(*api.Attrs)             { return func(a *api.Attrs) { a.Med = n } }
func next(n uint32) func(*api.Attrs)         { return func(a *api.Attrs) { a.Next = n } }

func same(t *testing.T, name string, got api.Attrs, ok bool, want api.Attrs) {
	t.Helper()
	if !ok || !attrs.Same(got, want) {
		t.Errorf("%s: %+v, %v", name, got, ok)
	}
}

func nothing(t *testing.T, name string, got api.Attrs, ok bool) {
	t.Helper()
	if ok || !attrs.Same(got, api.Attrs{}) {
		t.Errorf("%s: %+v, %v", name, got, ok)
	}
}

// P17.1

func TestExt(t *testing.T) {
	for _, x := range []struct {
		l, p uint32
		want bool
	}{
		{65001, 65001, false}, {65001, 65002, true}, {0, 0, false}, {0, 1, true}, {1, 0, true}, {math.MaxUint32, math.MaxUint32, false}, {65537, 1, true}, {23456, 70000, true},
	} {
		if export.Ext(api.Local{AS: x.l, Id: 1, Addr: 2}, api.Peer{AS: x.p, Addr: 3}) != x.want {
			t.Error(x)
		}
	}
	if export.Ext(api.Local{}, api.Peer{}) {
		t.Error("zero ones")
	}
}

func TestIn(t *testing.T) {
	with := func(l []api.Rule) api.Peer { return api.Peer{AS: 65002, Addr: 5, In: l, Out: deny} }
	for name, c := range map[string]struct {
		rules []api.Rule
		a     api.Attrs
		want  func(*api.Attrs)
	}{
		"no rules":                {nil, full(), func(a *api.Attrs) {}},
		"an empty list":           {[]api.Rule{}, full(), func(a *api.Attrs) {}},
		"permit":                  {permit(), full(), func(a *api.Attrs) {}},
		"no path":                 {nil, full(path()), func(a *api.Attrs) {}},
		"another Pref":            {permit(api.Deed{Kind: api.APref, Num: 5}), full(), pref(5)},
		"other communities":       {permit(api.Deed{Kind: api.AClear}), full(), comms()},
		"another path":            {permit(api.Deed{Kind: api.APrepend, Num: 2, Addr: 5}), full(), path(seq(5, 5, 65002, 70000), set(3, 4))},
		"by the prefix":           {[]api.Rule{{Conds: []api.Cond{{Kind: api.CPrefix, Range: []api.Range{{Prefix: ten, Min: 8, Max: 8}}}}, Deeds: []api.Deed{{Kind: api.AMed, Num: 4}}, Verdict: api.Permit}}, full(), med(4)},
		"this side's, by a rule":  {permit(api.Deed{Kind: api.APrepend, Num: 1, Addr: 65001}), full(), path(seq(65001, 65002, 70000), set(3, 4))},
		"nearly this side's":      {nil, full(path(seq(65000, 65002), set(65001-1, 130537))), func(a *api.Attrs) {}},
		"not right attributes":    {nil, full(path(seq(upTo(70)...), api.Segment{Kind: 9})), func(a *api.Attrs) {}},
		"communities bar nothing": {nil, full(comms(noExport, noAdvertise, localAS)), func(a *api.Attrs) {}},
	} {
		want := c.a
		c.want(&want)
		got, ok := export.In(us, with(c.rules), ten, c.a)
		same(t, name, got, ok, want)
	}
	for name, c := range map[string]struct {
		rules []api.Rule
		a     api.Attrs
	}{
		"deny":                                {deny, full()},
		"none permits":                        {[]api.Rule{{Verdict: api.Go}}, full()},
		"rules that are not right":            {[]api.Rule{{Verdict: api.Permit}, {}}, full()},
		"by another prefix":                   {[]api.Rule{{Conds: []api.Cond{{Kind: api.CPrefix, Range: []api.Range{{Prefix: api.Prefix{Addr: 11 << 24, Len: 8}, Min: 8, Max: 8}}}}, Verdict: api.Permit}}, full()},
		"this side's number first":            {nil, full(path(seq(65001, 65002)))},
		"this side's number last":             {nil, full(path(seq(65002), set(3), seq(4, 65001)))},
		"this side's number in a set":         {nil, full(path(seq(65002), set(3, 65001)))},
		"this side's number alone":            {nil, full(path(set(65001)))},
		"this side's in a segment of no kind": {nil, full(path(seq(65002), api.Segment{Kind: 7, AS: []uint32{65001}}))},
		"this side's, and rules that permit":  {permit(), full(path(seq(65001)))},
		"this side's behind many":             {nil, full(path(seq(append(upTo(300), 65001)...)))},
	} {
		got, ok := export.In(us, with(c.rules), ten, c.a)
		nothing(t, name, got, ok)
	}
	// One of this system tells routes as another one does.
	mine := inner
	mine.In = permit(api.Deed{Kind: api.APref, Num: 5})
	got, ok := export.In(us, mine, ten, full())
	same(t, "of this system", got, ok, full(pref(5)))
	got, ok = export.In(us, mine, ten, full(path(seq(65001))))
	nothing(t, "of this system, with its number", got, ok)
	// What is asked for is this side's number, not the peer's.
	got, ok = export.In(api.Local{AS: 7}, with(nil), ten, full(path(seq(65001, 65002))))
	same(t, "another side", got, ok, full(path(seq(65001, 65002))))
}

func TestCand(t *testing.T) {
	for _, x := range []struct {
		name string
		from api.Peer
		path []api.Segment
		ext  bool
		near uint32
	}{
		{"another system", outer, []api.Segment{seq(65002, 70000), set(3, 4)}, true, 65002},
		{"this system", inner, []api.Segment{seq(65002, 70000)}, false, 65002},
		{"no path", outer, nil, true, 0},
		{"a set first", outer, []api.Segment{set(3), seq(65002)}, true, 0},
		{"a segment without numbers first", outer, []api.Segment{seq(), seq(65002)}, true, 0},
		{"a segment of no kind first", outer, []api.Segment{{Kind: 9, AS: []uint32{5}}, seq(65002)}, true, 0},
		{"the greatest number", inner, []api.Segment{seq(math.MaxUint32)}, false, math.MaxUint32},
		{"0", outer, []api.Segment{seq(0, 1)}, true, 0},
	} {
		a := full(path(x.path...))
		for _, peer := range []int{0, 5, -1, math.MaxInt} {
			c := export.Cand(us, peer, x.from, 77, a)
			if c.Peer != peer || c.Ext != x.ext || c.Near != x.near || c.Id != 77 || c.Addr != x.from.Addr || !attrs.Same(c.Attrs, a) {
				t.Errorf("%s: %+v", x.name, c)
			}
		}
	}
	// The peer's rules are none of its matter.
	barred := outer
	barred.In, barred.Out = deny, deny
	if c := export.Cand(us, 1, barred, 0, full(path(seq(65001)), comms(noAdvertise))); !c.Ext || c.Near != 65001 || len(c.Attrs.Comms) != 1 {
		t.Errorf("%+v", c)
	}
}

// P17.2

// cand is a route of peer 1.
func cand(ext bool, a api.Attrs) api.Cand {
	return api.Cand{Peer: 1, Ext: ext, Near: 65002, Id: 9, Addr: 8, Attrs: a}
}

func TestExample(t *testing.T) {
	from := api.Peer{AS: 65002, Addr: 1}
	a, ok := export.In(us, from, ten, full(path(seq(65002))))
	if !ok {
		t.Fatal("nothing comes in")
	}
	a, ok = export.Out(us, outer, 2, ten, export.Cand(us, 1, from, 3, a))
	if !ok || aspath.Text(a.Path) != "65001 65002" {
		t.Error(a, ok)
	}
}

func TestOutToAnotherSystem(t *testing.T) {
	long := seq(append([]uint32{65001}, upTo(63)...)...)
	for name, c := range map[string]struct {
		path, want []api.Segment
	}{
		"a sequence":         {[]api.Segment{seq(65002, 70000), set(3, 4)}, []api.Segment{seq(65001, 65002, 70000), set(3, 4)}},
		"no path":            {nil, []api.Segment{seq(65001)}},
		"a set":              {[]api.Segment{set(3, 4)}, []api.Segment{seq(65001), set(3, 4)}},
		"its own number":     {[]api.Segment{seq(65003)}, []api.Segment{seq(65001, 65003)}},
		"this side's number": {[]api.Segment{seq(65001)}, []api.Segment{seq(65001, 65001)}},
		"room for one":       {[]api.Segment{seq(upTo(63)...)}, []api.Segment{long}},
		"8 segments":         {slices.Repeat([]api.Segment{seq(1)}, 8), append([]api.Segment{seq(65001, 1)}, slices.Repeat([]api.Segment{seq(1)}, 7)...)},
		"7 behind a set":     {append([]api.Segment{set(1)}, slices.Repeat([]api.Segment{seq(1)}, 6)...), append([]api.Segment{seq(65001), set(1)}, slices.Repeat([]api.Segment{seq(1)}, 6)...)},
	} {
		for _, ext := range []bool{true, false} {
			got, ok := export.Out(us, outer, 2, ten, cand(ext, full(path(c.path...))))
			same(t, name, got, ok, full(path(c.want...), next(us.Addr), med(-1), pref(-1)))
		}
	}
	for name, l := range map[string][]api.Segment{
		"64 numbers": {seq(upTo(64)...)}, "64 in two": {set(upTo(60)...), seq(1, 2, 3, 4)}, "8 segments, a set first": append([]api.Segment{set(1)}, slices.Repeat([]api.Segment{seq(1)}, 7)...),
		"9 segments": slices.Repeat([]api.Segment{seq(1)}, 9), "a segment of no kind": {{Kind: 3, AS: []uint32{1}}}, "a segment without numbers": {seq(1), set()}, "65 numbers": {seq(upTo(65)...)},
	} {
		for _, rules := range [][]api.Rule{nil, permit()} {
			to := outer
			to.Out = rules
			got, ok := export.Out(us, to, 2, ten, cand(true, full(path(l...))))
			nothing(t, name, got, ok)
		}
	}
	for _, n := range []int{-1, -7, 0, 100, 1 << 32} {
		got, ok := export.Out(us, outer, 2, ten, cand(false, full(pref(n), med(n))))
		same(t, "Pref and Med", got, ok, full(path(seq(65001, 65002, 70000), set(3, 4)), next(us.Addr), med(-1), pref(-1)))
	}
}

func TestOutToThisSystem(t *testing.T) {
	for _, x := range []struct{ pref, want int }{{-1, 100}, {-2, 100}, {math.MinInt, 100}, {0, 0}, {1, 1}, {99, 99}, {100, 100}, {300, 300}, {1 << 32, 1 << 32}} {
		for _, m := range []int{-1, 0, 9, 1 << 32} {
			got, ok := export.Out(us, inner, 2, ten, cand(true, full(pref(x.pref), med(m))))
			same(t, "Pref", got, ok, full(pref(x.want), med(m)))
		}
	}
	// A path stays as it is, whether or not it may be longer.
	for name, l := range map[string][]api.Segment{"none": nil, "64 numbers": {seq(upTo(64)...)}, "wrong": {seq(), {Kind: 9, AS: upTo(99)}}, "a set": {set(3)}, "this side's": {seq(65001)}} {
		got, ok := export.Out(us, inner, 2, ten, cand(true, full(path(l...))))
		same(t, name, got, ok, full(path(l...)))
	}
}

func TestToWhomNothingGoes(t *testing.T) {
	for name, x := range map[string]struct {
		to      api.Peer
		peer    int
		ext     bool
		comms   []uint32
		mayGoTo bool
	}{
		"another peer":               {outer, 2, true, nil, true},
		"the peer it came from":      {outer, 1, true, nil, false},
		"that peer, of this system":  {inner, 1, true, nil, false},
		"another system, from this":  {outer, 2, false, nil, true},
		"this system, from another":  {inner, 2, true, nil, true},
		"this system to this system": {inner, 2, false, nil, false},
		"a peer below 0":             {outer, -1, true, nil, true},

		"no-advertise, out":                   {outer, 2, true, []uint32{noAdvertise}, false},
		"no-advertise, from this system out":  {outer, 2, false, []uint32{noAdvertise}, false},
		"no-advertise, in":                    {inner, 2, true, []uint32{noAdvertise}, false},
		"no-advertise behind others":          {inner, 2, true, []uint32{1, 2, noAdvertise}, false},
		"no-export, out":                      {outer, 2, true, []uint32{noExport}, false},
		"no-export, from this system out":     {outer, 2, false, []uint32{noExport}, false},
		"no-export, in":                       {inner, 2, true, []uint32{noExport}, true},
		"no-export among others":              {outer, 2, true, []uint32{1, noExport, 2}, false},
		"local-as, out":                       {outer, 2, true, []uint32{localAS}, false},
		"local-as, from this system out":      {outer, 2, false, []uint32{localAS}, false},
		"local-as, in":                        {inner, 2, true, []uint32{localAS}, true},
		"local-as behind 40 others":           {outer, 2, true, append(upTo(40), localAS), false},
		"no-export and local-as, in":          {inner, 2, true, []uint32{noExport, localAS}, true},
		"all three, in":                       {inner, 2, true, []uint32{noExport, localAS, noAdvertise}, false},
		"their neighbours, out":               {outer, 2, true, []uint32{0xFFFFFF00, 0xFFFFFF04, 0xFFFF0001, 1, 2, 3, 0xFFFFFFFF}, true},
		"their neighbours, in":                {inner, 2, true, []uint32{0xFFFFFF00, 0xFFFFFF04}, true},
		"no-export, within this system alone": {inner, 2, false, []uint32{noExport}, false},
	} {
		for _, rules := range [][]api.Rule{nil, permit(), permit(api.Deed{Kind: api.AClear})} {
			x.to.Out = rules
			got, ok := export.Out(us, x.to, x.peer, ten, cand(x.ext, full(comms(x.comms...))))
			if !x.mayGoTo {
				nothing(t, name, got, ok)
			} else if !ok || len(rules) == 0 && !slices.Equal(got.Comms, x.comms) {
				t.Errorf("%s: %+v, %v", name, got, ok)
			}
		}
	}
}

func TestRulesOfWhatGoesOut(t *testing.T) {
	to := func(p api.Peer, l []api.Rule) api.Peer {
		// Its rules for what comes in say nothing here.
		p.In, p.Out = deny, l
		return p
	}
	out := []func(*api.Attrs){path(seq(65001, 65002, 70000), set(3, 4)), next(us.Addr), med(-1), pref(-1)}
	cond := func(c api.Cond, d ...api.Deed) []api.Rule {
		return []api.Rule{{Conds: []api.Cond{c}, Deeds: d, Verdict: api.Permit}}
	}
	for name, c := range map[string]struct {
		to    api.Peer
		rules []api.Rule
		more  func(*api.Attrs)
	}{
		"permit":                   {outer, permit(), func(a *api.Attrs) {}},
		"permit in":                {inner, permit(), func(a *api.Attrs) {}},
		"Pref out":                 {outer, permit(api.Deed{Kind: api.APref, Num: 7}), func(a *api.Attrs) {}},
		"Pref in":                  {inner, permit(api.Deed{Kind: api.APref, Num: 7}), pref(7)},
		"Pref 0 in":                {inner, permit(api.Deed{Kind: api.APref, Num: 0}), pref(0)},
		"Med out":                  {outer, permit(api.Deed{Kind: api.AMed, Num: 7}), med(7)},
		"Med in":                   {inner, permit(api.Deed{Kind: api.AMed, Num: -1}), med(-1)},
		"next one out":             {outer, permit(api.Deed{Kind: api.ANext, Addr: 11 << 24}), next(11 << 24)},
		"next one in":              {inner, permit(api.Deed{Kind: api.ANext, Addr: 11 << 24}), next(11 << 24)},
		"prepend out":              {outer, permit(api.Deed{Kind: api.APrepend, Num: 2, Addr: 65001}), path(seq(65001, 65001, 65001, 65002, 70000), set(3, 4))},
		"prepend in":               {inner, permit(api.Deed{Kind: api.APrepend, Num: 1, Addr: 5}), path(seq(5, 65002, 70000), set(3, 4))},
		"another number ahead":     {outer, permit(api.Deed{Kind: api.APrepend, Num: 1, Addr: 5}), path(seq(5, 65001, 65002, 70000), set(3, 4))},
		"a community that bars":    {outer, permit(api.Deed{Kind: api.AAdd, Addr: noExport}), comms(7, 8, noExport)},
		"asked of the next one":    {outer, cond(api.Cond{Kind: api.CNext, Addr: us.Addr}, api.Deed{Kind: api.AMed, Num: 3}), med(3)},
		"asked of the longer path": {outer, cond(api.Cond{Kind: api.CRegex, Text: "^65001 65002"}, api.Deed{Kind: api.AMed, Num: 3}), med(3)},
		"asked of the path within": {inner, cond(api.Cond{Kind: api.CRegex, Text: "^65002"}), func(a *api.Attrs) {}},
		"asked of the prefix":      {inner, cond(api.Cond{Kind: api.CPrefix, Range: []api.Range{{Prefix: ten, Min: 8, Max: 8}}}, api.Deed{Kind: api.APref, Num: 3}), pref(3)},
		"go, then permit":          {inner, append([]api.Rule{{Deeds: []api.Deed{{Kind: api.AMed, Num: 1}}, Verdict: api.Go}}, permit()...), med(1)},
	} {
		want := full()
		if c.to.AS == outer.AS {
			want = full(out...)
		}
		c.more(&want)
		got, ok := export.Out(us, to(c.to, c.rules), 2, ten, cand(true, full()))
		same(t, name, got, ok, want)
	}
	for name, l := range map[string][]api.Rule{
		"deny": deny, "none permits": {{Verdict: api.Go}}, "not right": {{Verdict: api.Permit}, {}},
		"another prefix": cond(api.Cond{Kind: api.CPrefix, Range: []api.Range{{Prefix: ten, Min: 9, Max: 32}}}), "another origin": cond(api.Cond{Kind: api.COrigin, Num: 2}),
	} {
		for _, p := range []api.Peer{inner, outer} {
			got, ok := export.Out(us, to(p, l), 2, ten, cand(true, full()))
			nothing(t, name, got, ok)
		}
	}
}

// chance is numbers that come the same each time.
type chance uint32

func (x *chance) below(n int) int {
	*x ^= *x << 13
	*x ^= *x >> 17
	*x ^= *x << 5
	return int(uint32(*x) % uint32(n))
}

func pick[T any](x *chance, l ...T) T { return l[x.below(len(l))] }

func (x *chance) attrs() api.Attrs {
	a := full(pref(pick(x, -1, 0, 7, 100)), med(pick(x, -1, 0, 7)), next(pick[uint32](x, 1<<24, us.Addr)))
	a.Comms = pick(x, nil, []uint32{1}, []uint32{noExport}, []uint32{2, noAdvertise}, []uint32{localAS, 3}, []uint32{1, 2, 3})
	a.Path = pick(x, nil, []api.Segment{seq(65002)}, []api.Segment{set(1, 2), seq(65001)}, []api.Segment{seq(1, 65001)}, []api.Segment{seq(upTo(64)...)}, []api.Segment{{Kind: 8}}, []api.Segment{seq(65002, 9), set(1, 2)})
	return a
}

func (x *chance) rules() []api.Rule {
	return pick(x, nil, permit(), deny, permit(api.Deed{Kind: api.APref, Num: x.below(300)}), permit(api.Deed{Kind: api.AMed, Num: 5}, api.Deed{Kind: api.AClear}),
		[]api.Rule{{Conds: []api.Cond{{Kind: api.CLonger, Num: 2}}, Verdict: api.Permit}}, permit(api.Deed{Kind: api.AAdd, Addr: noAdvertise}))
}

// outByWords is P17.2, sentence by sentence.
func outByWords(l api.Local, to api.Peer, peer int, p api.Prefix, c api.Cand) (api.Attrs, bool) {
	a, ext := c.Attrs, l.AS != to.AS
	has := func(c uint32) bool { return slices.Contains(a.Comms, c) }
	switch {
	case c.Peer == peer, !c.Ext && !ext, has(noAdvertise), ext && has(noExport), ext && has(localAS):
		return api.Attrs{}, false
	case !ext && a.Pref < 0:
		a.Pref = 100
	}
	if ext {
		longer, e := aspath.Prepend(a.Path, l.AS)
		if e != api.OK {
			return api.Attrs{}, false
		}
		a.Path, a.Next, a.Med = longer, l.Addr, -1
	}
	a, ok := policy.Apply(to.Out, p, a)
	if ok && ext {
		a.Pref = -1
	}
	return a, ok
}

func TestOutAsTheWordsSay(t *testing.T) {
	x := chance(2463534242)
	went := map[bool]int{}
	for range 40000 {
		to := pick(&x, inner, outer)
		to.In, to.Out = x.rules(), x.rules()
		c := cand(x.below(2) == 0, x.attrs())
		peer := x.below(3)
		got, ok := export.Out(us, to, peer, ten, c)
		want, wantOk := outByWords(us, to, peer, ten, c)
		if ok != wantOk || !attrs.Same(got, want) {
			t.Fatalf("%+v, %v, not %+v, %v", got, ok, want, wantOk)
		}
		went[ok]++
	}
	if went[true] < 3000 || went[false] < 3000 {
		t.Error(went)
	}
}

// P17.3

func TestWhatFollows(t *testing.T) {
	x := chance(88172645)
	for range 20000 {
		from, to := pick(&x, inner, outer, api.Peer{AS: 65002}), pick(&x, inner, outer)
		from.In, to.Out = x.rules(), x.rules()
		told := x.attrs()
		a, ok := export.In(us, from, ten, told)
		if !ok {
			continue
		}
		if aspath.Has(a.Path, us.AS) || aspath.Has(told.Path, us.AS) {
			t.Fatalf("%+v came in", a)
		}
		a, ok = export.Out(us, to, 2, ten, export.Cand(us, 1, from, 5, a))
		if !ok {
			continue
		}
		first, _ := aspath.First(a.Path)
		if to.AS == us.AS && a.Pref < 0 || to.AS != us.AS && (first != us.AS || a.Pref != -1) {
			t.Fatalf("%+v goes to %+v", a, to)
		}
	}
}

// Rules 3, 4, 5, 6 and 9

func TestNothingHandedInIsChanged(t *testing.T) {
	numbers, room := append(upTo(3), 9, 9), []uint32{7, 8, 9, 9}
	a := full(path(seq(numbers[:3]...)), comms(room[:2]...))
	to := outer
	to.Out = permit(api.Deed{Kind: api.AAdd, Addr: 5}, api.Deed{Kind: api.APrepend, Num: 3, Addr: 6}, api.Deed{Kind: api.ADrop, Addr: 7})
	from := api.Peer{AS: 65002, In: to.Out}
	var first api.Attrs
	for i := range 10 {
		in, ok := export.In(us, from, ten, a)
		if !ok {
			t.Fatal("nothing comes in")
		}
		got, ok := export.Out(us, to, 2, ten, export.Cand(us, 1, from, 4, in))
		if i == 0 {
			first = got
		}
		if !ok || !attrs.Same(got, first) {
			t.Fatal("another answer", got)
		}
	}
	if !slices.Equal(numbers, []uint32{1, 2, 3, 9, 9}) || !slices.Equal(room, []uint32{7, 8, 9, 9}) || a.Pref != 300 || a.Med != 9 || len(to.Out[0].Deeds) != 3 {
		t.Error(a, numbers, room)
	}
	if aspath.Text(first.Path) != "6 6 6 65001 6 6 6 1 2 3" || !slices.Equal(first.Comms, []uint32{8, 5}) {
		t.Error(first)
	}
}

func TestNilAndEmptyAreOne(t *testing.T) {
	bare := api.Attrs{Path: []api.Segment{}, Comms: []uint32{}, Raws: []api.Raw{}}
	for _, p := range []api.Peer{inner, outer} {
		q := p
		q.In, q.Out = []api.Rule{}, []api.Rule{}
		a, okA := export.In(us, p, ten, api.Attrs{})
		b, okB := export.In(us, q, ten, bare)
		if !okA || !okB || !attrs.Same(a, b) {
			t.Error(a, b)
		}
		a, okA = export.Out(us, p, 2, ten, cand(true, api.Attrs{}))
		b, okB = export.Out(us, q, 2, ten, cand(true, bare))
		if !okA || !okB || !attrs.Same(a, b) {
			t.Error(a, b)
		}
	}
}

func TestWhateverComes(t *testing.T) {
	x := chance(77)
	ends := []int{math.MinInt, -1, 0, 1, 1 << 32, math.MaxInt}
	for range 3000 {
		a := x.attrs()
		a.Origin, a.Pref, a.Med = pick(&x, ends...), pick(&x, ends...), pick(&x, ends...)
		p := api.Prefix{Addr: uint32(x.below(1 << 30)), Len: pick(&x, ends...)}
		l := api.Local{AS: pick[uint32](&x, 0, 1, math.MaxUint32)}
		to := api.Peer{AS: pick[uint32](&x, 0, 1, math.MaxUint32), Out: append(x.rules(), api.Rule{Verdict: pick(&x, ends...)}), In: x.rules()}
		export.In(l, to, p, a)
		c := export.Cand(l, pick(&x, ends...), to, 0, a)
		got, ok := export.Out(l, to, pick(&x, ends...), p, c)
		want, wantOk := outByWords(l, to, c.Peer+1, p, c)
		if ok && wantOk && !attrs.Same(got, want) {
			t.Fatal(got, want)
		}
	}
}
