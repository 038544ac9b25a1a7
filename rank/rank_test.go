package rank_test

import (
	"math"
	"slices"
	"testing"

	"speculum/api"
	"speculum/aspath"
	"speculum/attrs"
	"speculum/rank"
)

func seq(l ...uint32) api.Segment { return api.Segment{Kind: api.Seq, AS: l} }
func set(l ...uint32) api.Segment { return api.Segment{Kind: api.Set, AS: l} }

// like is a candidate of which something is told otherwise than of all others.
func like(change ...func(c *api.Cand)) api.Cand {
	a := attrs.Zero()
	a.Path = []api.Segment{seq(7, 8)}
	a.Origin = 1
	a.Med = 50
	c := api.Cand{Peer: 3, Near: 7, Id: 30, Addr: 300, Attrs: a}
	for _, f := range change {
		f(&c)
	}
	return c
}

func pref(n int) func(*api.Cand)   { return func(c *api.Cand) { c.Attrs.Pref = n } }
func med(n int) func(*api.Cand)    { return func(c *api.Cand) { c.Attrs.Med = n } }
func origin(n int) func(*api.Cand) { return func(c *api.Cand) { c.Attrs.Origin = n } }
func near(n uint32) func(*api.Cand) {
	return func(c *api.Cand) { c.Near = n }
}
func ext(c *api.Cand)               { c.Ext = true }
func id(n uint32) func(*api.Cand)   { return func(c *api.Cand) { c.Id = n } }
func addr(n uint32) func(*api.Cand) { return func(c *api.Cand) { c.Addr = n } }
func peer(n int) func(*api.Cand)    { return func(c *api.Cand) { c.Peer = n } }
func path(l ...api.Segment) func(*api.Cand) {
	return func(c *api.Cand) { c.Attrs.Path = l }
}

// P15.1

func TestPrefAndMed(t *testing.T) {
	for _, x := range []struct{ n, pref, med int }{
		{-1, 100, 0}, {0, 0, 0}, {1, 1, 1}, {99, 99, 99}, {100, 100, 100}, {math.MaxUint32, math.MaxUint32, math.MaxUint32}, {1 << 32, 1 << 32, 1 << 32},
		{-2, 100, 0}, {math.MinInt, 100, 0}, {math.MaxInt, math.MaxInt, math.MaxInt},
	} {
		if got := rank.Pref(like(pref(x.n), med(7))); got != x.pref {
			t.Error("Pref", x.n, got)
		}
		if got := rank.Med(like(med(x.n), pref(7))); got != x.med {
			t.Error("Med", x.n, got)
		}
	}
	if rank.Pref(api.Cand{}) != 0 || rank.Med(api.Cand{}) != 0 {
		t.Error("a zero candidate")
	}
}

// duel is two of which the first one is taken, by a step.
type duel struct {
	name string
	a, b api.Cand
	step int
}

func duels() []duel {
	late := []func(*api.Cand){ext, id(0), addr(0), peer(0)}
	worse := func(f ...func(*api.Cand)) api.Cand { return like(append(f, late...)...) }
	return []duel{
		{"the greater Pref", like(pref(200)), like(pref(101)), 1},
		{"Pref, however long the path", like(pref(200), path(seq(1, 2, 3, 4, 5, 6, 7, 8, 9))), like(path(), pref(199)), 1},
		{"no Pref is 100: above 99", like(pref(-1)), like(pref(99)), 1},
		{"no Pref is 100: below 101", like(pref(101)), like(pref(-1)), 1},
		{"no Pref of another kind", like(pref(-5)), like(pref(0)), 1},
		{"the greatest Pref of all", like(pref(1 << 32)), like(pref(math.MaxUint32)), 1},
		{"Pref ahead of all behind it", like(pref(200)), worse(pref(150), path(), origin(0), med(0)), 1},
		{"the shorter path", like(path(seq(7))), like(), 2},
		{"no path", like(path()), like(path(seq(7))), 2},
		{"a set counts one", like(path(set(1, 2, 3, 4))), like(), 2},
		{"a set and a number count two", like(path(seq(7), set(1, 2, 3))), like(path(seq(7, 8, 9))), 2},
		{"a longer segment of no kind", like(path(api.Segment{Kind: 9, AS: []uint32{7}})), like(), 2},
		{"a segment without numbers", like(path(seq(7), seq())), like(), 2},
		{"the path ahead of all behind it", like(path(seq(7))), worse(origin(0), med(0)), 2},
		{"the lesser Origin", like(origin(0)), like(), 3},
		{"the lesser Origin of greater ones", like(), like(origin(2)), 3},
		{"an Origin that is none", like(origin(-1)), like(origin(0)), 3},
		{"Origin ahead of all behind it", like(origin(0)), worse(med(0)), 3},
		{"the lesser Med", like(med(49)), like(), 4},
		{"no Med is 0", like(med(-1)), like(med(1)), 4},
		{"Med below 0 is 0", like(med(-9)), like(med(1)), 4},
		{"the greatest Med of all", like(med(math.MaxUint32)), like(med(1 << 32)), 4},
		{"Med ahead of all behind it", like(med(49)), worse(), 4},
		{"Med of Near 0", like(near(0), med(49)), worse(near(0)), 4},
		{"Ext", like(ext), like(), 5},
		{"Ext ahead of all behind it", like(ext), like(id(0), addr(0), peer(0)), 5},
		{"Med of another Near", like(ext, near(9), med(99)), like(med(0)), 5},
		{"the lesser Id", like(id(29)), like(), 6},
		{"the greatest Id", like(id(1 << 31)), like(id(math.MaxUint32)), 6},
		{"an Id of 32 bits", like(id(math.MaxInt32)), like(id(1 << 31)), 6},
		{"Id ahead of all behind it", like(id(29)), like(addr(0), peer(0)), 6},
		{"Id, both Ext", like(ext, id(29)), like(ext), 6},
		{"Id, Med of another Near", like(id(29), med(99), near(9)), like(med(0)), 6},
		{"the lesser Addr", like(addr(299)), like(), 7},
		{"the greatest Addr", like(addr(1 << 31)), like(addr(math.MaxUint32)), 7},
		{"an Addr of 32 bits", like(addr(math.MaxInt32)), like(addr(1 << 31)), 7},
		{"Addr ahead of Peer", like(addr(299)), like(peer(0)), 7},
		{"the lesser Peer", like(peer(2)), like(), 8},
		{"a Peer below 0", like(peer(-1)), like(peer(0)), 8},
		{"the greatest Peer", like(peer(math.MaxInt - 1)), like(peer(math.MaxInt)), 8},
		{"Peer, of another Near", like(peer(2), near(9), med(60)), like(), 8},
	}
}

func TestOneStepAfterTheOther(t *testing.T) {
	for _, d := range duels() {
		if i, j := rank.Best([]api.Cand{d.a, d.b}), rank.Best([]api.Cand{d.b, d.a}); i != 0 || j != 1 {
			t.Errorf("%s: %d, %d", d.name, i, j)
		}
	}
}

func TestBestOfFew(t *testing.T) {
	alone := like()
	for _, x := range []struct {
		name string
		l    []api.Cand
		want int
	}{
		{"none", nil, -1},
		{"an empty list", []api.Cand{}, -1},
		{"one", []api.Cand{alone}, 0},
		{"one zero candidate", []api.Cand{{}}, 0},
		{"the first of those that are the same", []api.Cand{alone, alone, alone}, 0},
		{"the first of these, behind a worse one", []api.Cand{like(peer(4)), alone, alone}, 1},
		{"Near says nothing else", []api.Cand{like(near(9)), like(near(8)), like(near(7))}, 0},
		{"the same at all steps, of other attributes", []api.Cand{like(near(8), med(2)), like(near(7), med(1))}, 0},
		// A third one of its Near takes one away that is ahead of the other one.
		{"without a third one", []api.Cand{like(near(1), med(10), id(1)), like(near(2), med(99), id(2))}, 0},
		{"with a third one", []api.Cand{like(near(1), med(10), id(1)), like(near(2), med(99), id(2)), like(near(1), med(5), id(3))}, 1},
		{"the third one ahead", []api.Cand{like(near(1), med(5), id(3)), like(near(1), med(10), id(1)), like(near(2), med(99), id(2))}, 2},
		{"the third one with another Near", []api.Cand{like(near(1), med(10), id(1)), like(near(2), med(99), id(2)), like(near(3), med(5), id(3))}, 0},
		{"two of a Near with the same Med", []api.Cand{like(near(1), med(5), id(3)), like(near(1), med(5), id(2)), like(near(1), med(6), id(1))}, 1},
		{"the third one is gone by then: its Pref", []api.Cand{like(near(1), med(10), id(1)), like(near(2), med(99), id(2)), like(near(1), med(5), id(3), pref(99))}, 0},
		{"the third one is gone by then: its path", []api.Cand{like(near(1), med(10), id(1)), like(near(2), med(99), id(2)), like(near(1), med(5), id(3), path(seq(7, 8, 9)))}, 0},
		{"the third one is gone by then: its Origin", []api.Cand{like(near(1), med(10), id(1)), like(near(2), med(99), id(2)), like(near(1), med(5), id(3), origin(2))}, 0},
		{"Ext, but not of the least Med of its Near", []api.Cand{like(ext, near(1), med(10)), like(near(1), med(5)), like(near(2), id(29))}, 2},
		{"one is Ext, among many", []api.Cand{like(id(1)), like(id(2)), like(ext, id(99)), like(id(3))}, 2},
		{"more are Ext", []api.Cand{like(id(1)), like(ext, id(99)), like(ext, id(98)), like(id(3))}, 2},
		{"a greater Pref comes last", []api.Cand{like(near(1)), like(near(2)), like(near(3), pref(101), path(seq(1, 2, 3, 4)))}, 2},
	} {
		if got := rank.Best(x.l); got != x.want {
			t.Errorf("%s: %d", x.name, got)
		}
	}
}

// chance is numbers that come the same each time.
type chance uint32

func (x *chance) below(n int) int {
	*x ^= *x << 13
	*x ^= *x >> 17
	*x ^= *x << 5
	return int(uint32(*x) % uint32(n))
}

// cand is one of few, so that many are equal at many steps; often just the last steps differ.
func (x *chance) cand() api.Cand {
	c := like(near(uint32(x.below(3))), med(x.below(4)-1), id(uint32(x.below(3))), addr(uint32(x.below(2))), peer(x.below(3)))
	c.Ext = x.below(2) == 0
	if x.below(4) == 0 {
		pref(98 + x.below(4))(&c)
	}
	if x.below(4) == 0 {
		origin(x.below(3))(&c)
	}
	if x.below(4) == 0 {
		path([][]api.Segment{nil, {seq(1)}, {set(1, 2, 3)}, {seq(1), set(4)}, {seq(1, 2, 3)}}[x.below(5)]...)(&c)
	}
	return c
}

func (x *chance) cands(n int) []api.Cand {
	var out []api.Cand
	for range n {
		out = append(out, x.cand())
	}
	return out
}

// left is the words of P15.1, one step behind the other: the places that each step leaves.
func left(l []api.Cand) [][]int {
	least := func(of func(c api.Cand) int, with func(c, d api.Cand) bool) func([]int) []int {
		return func(places []int) []int {
			var out []int
			for _, i := range places {
				if !slices.ContainsFunc(places, func(j int) bool { return with(l[i], l[j]) && of(l[j]) < of(l[i]) }) {
					out = append(out, i)
				}
			}
			return out
		}
	}
	all := func(c, d api.Cand) bool { return true }
	steps := []func([]int) []int{
		least(func(c api.Cand) int { return -rank.Pref(c) }, all),
		least(func(c api.Cand) int { return aspath.Count(c.Attrs.Path) }, all),
		least(func(c api.Cand) int { return c.Attrs.Origin }, all),
		least(rank.Med, func(c, d api.Cand) bool { return c.Near == d.Near }),
		func(places []int) []int {
			only := slices.DeleteFunc(slices.Clone(places), func(i int) bool { return !l[i].Ext })
			if len(only) > 0 {
				return only
			}
			return places
		},
		least(func(c api.Cand) int { return int(c.Id) }, all),
		least(func(c api.Cand) int { return int(c.Addr) }, all),
		least(func(c api.Cand) int { return c.Peer }, all),
	}
	var places []int
	for i := range l {
		places = append(places, i)
	}
	var out [][]int
	for _, step := range steps {
		places = step(places)
		out = append(out, places)
	}
	return out
}

func bestByWords(l []api.Cand) int {
	if len(l) == 0 {
		return -1
	}
	return left(l)[7][0]
}

func TestBestAsTheWordsSay(t *testing.T) {
	x := chance(2463534242)
	for range 60000 {
		l := x.cands(x.below(9))
		if got, want := rank.Best(l), bestByWords(l); got != want {
			t.Fatalf("%d, not %d of %+v", got, want, l)
		}
	}
	l := x.cands(700)
	if got, want := rank.Best(l), bestByWords(l); got != want {
		t.Errorf("%d, not %d of many", got, want)
	}
}

// P15.2

func TestCompare(t *testing.T) {
	for _, d := range duels() {
		if way, step := rank.Compare(d.a, d.b); way != -1 || step != d.step {
			t.Errorf("%s: %d, %d", d.name, way, step)
		}
		if way, step := rank.Compare(d.b, d.a); way != 1 || step != d.step {
			t.Errorf("%s, the other way round: %d, %d", d.name, way, step)
		}
	}
	for name, c := range map[string][2]api.Cand{
		"the same": {like(), like()}, "zero ones": {}, "another Near": {like(), like(near(9))}, "another Near and Med": {like(), like(near(9), med(3))},
		"no Pref and 100": {like(), like(pref(100))}, "no Med and 0": {like(med(-1)), like(med(0))}, "other paths that count as long": {like(), like(path(seq(1), set(2, 3)))},
		"what is held against nothing": {like(), like(func(c *api.Cand) { c.Attrs.Next, c.Attrs.Comms, c.Attrs.Atomic = 9, []uint32{1}, true })},
	} {
		for _, p := range [][2]api.Cand{c, {c[1], c[0]}} {
			if way, step := rank.Compare(p[0], p[1]); way != 0 || step != 0 {
				t.Errorf("%s: %d, %d", name, way, step)
			}
		}
	}
}

func TestCompareAsTheWordsSay(t *testing.T) {
	x := chance(88172645)
	seen := map[int]int{}
	for range 60000 {
		a, b := x.cand(), x.cand()
		wantWay, wantStep := 0, 0
		for i, places := range left([]api.Cand{a, b}) {
			if len(places) == 1 {
				wantWay, wantStep = 2*places[0]-1, i+1
				break
			}
		}
		seen[wantStep]++
		if way, step := rank.Compare(a, b); way != wantWay || step != wantStep {
			t.Fatalf("%d, %d, not %d, %d of %+v, %+v", way, step, wantWay, wantStep, a, b)
		}
		if way, step := rank.Compare(b, a); way != -wantWay || step != wantStep {
			t.Fatalf("%d, %d of %+v, %+v", way, step, b, a)
		}
	}
	for step := range 9 {
		if seen[step] == 0 {
			t.Error("no two that part at step", step)
		}
	}
}

func TestOrder(t *testing.T) {
	third := []api.Cand{like(near(1), med(10), id(1)), like(near(2), med(99), id(2)), like(near(1), med(5), id(3))}
	for _, x := range []struct {
		name string
		l    []api.Cand
		want []int
	}{
		{"none", nil, nil},
		{"an empty list", []api.Cand{}, nil},
		{"one", []api.Cand{like()}, []int{0}},
		{"the same ones", []api.Cand{like(), like(), like(), like()}, []int{0, 1, 2, 3}},
		{"step by step", []api.Cand{like(peer(1)), like(addr(1)), like(id(1)), like(ext), like(med(1)), like(origin(0)), like(path()), like(pref(101)), like()}, []int{7, 6, 5, 4, 3, 2, 1, 0, 8}},
		// Behind the first one the third one is taken: only by then the one that it kept back.
		{"a third one of its Near", third, []int{1, 2, 0}},
		{"one that is kept back comes ahead then", append([]api.Cand{like(near(2), med(99), id(9))}, third...), []int{2, 3, 1, 0}},
	} {
		if got := rank.Order(x.l); !slices.Equal(got, x.want) {
			t.Errorf("%s: %v", x.name, got)
		}
	}
}

func TestOrderAsTheWordsSay(t *testing.T) {
	x := chance(123456789)
	for range 20000 {
		l := x.cands(x.below(8))
		var places, want []int
		for i := range l {
			places = append(places, i)
		}
		for rest := slices.Clone(l); len(rest) > 0; {
			i := bestByWords(rest)
			want = append(want, places[i])
			rest, places = slices.Delete(rest, i, i+1), slices.Delete(places, i, i+1)
		}
		if got := rank.Order(l); !slices.Equal(got, want) {
			t.Fatalf("%v, not %v of %+v", got, want, l)
		}
	}
	l := x.cands(3000)
	got := rank.Order(l)
	for i := 1; i < len(got); i++ {
		// The best of all that are left by then.
		rest := make([]api.Cand, 0, len(l))
		for _, place := range got[i-1:] {
			rest = append(rest, l[place])
		}
		if i%100 == 1 && l[got[i-1]].Peer != rest[rank.Best(rest)].Peer {
			t.Fatal(i)
		}
	}
	slices.Sort(got)
	for i := range l {
		if got[i] != i {
			t.Fatal("not each place once")
		}
	}
}

// P15.3

func TestTheBestIsTheGreatest(t *testing.T) {
	x := chance(31415926)
	for range 20000 {
		l := x.cands(1 + x.below(7))
		b := l[rank.Best(l)]
		for _, c := range l {
			keys := func(c api.Cand) []int {
				return []int{-rank.Pref(c), aspath.Count(c.Attrs.Path), c.Attrs.Origin, rank.Med(c)}
			}
			n := 3
			if c.Near == b.Near {
				n = 4
			}
			if slices.Compare(keys(b)[:n], keys(c)[:n]) > 0 {
				t.Fatalf("%+v, not %+v", b, c)
			}
		}
	}
}

// each calls a function with every order in which some may stand.
func each(l []api.Cand, ahead int, f func([]api.Cand)) {
	if ahead == len(l) {
		f(l)
		return
	}
	for i := ahead; i < len(l); i++ {
		l[ahead], l[i] = l[i], l[ahead]
		each(l, ahead+1, f)
		l[ahead], l[i] = l[i], l[ahead]
	}
}

func TestInWhicheverOrderTheyStand(t *testing.T) {
	x := chance(27182818)
	for range 1200 {
		l := x.cands(1 + x.below(5))
		for i := range l {
			l[i].Peer = i
		}
		best := rank.Best(l)
		order := rank.Order(l)
		each(slices.Clone(l), 0, func(m []api.Cand) {
			if got := m[rank.Best(m)].Peer; got != best {
				t.Fatalf("%d, not %d of %+v", got, best, m)
			}
			for i, place := range rank.Order(m) {
				if m[place].Peer != order[i] {
					t.Fatalf("%v of %+v", rank.Order(m), m)
				}
			}
		})
	}
}

// Rules 4, 5, 6 and 9

func TestNothingHandedInIsChanged(t *testing.T) {
	x := chance(99)
	room := x.cands(12)
	kept := slices.Clone(room)
	l := room[2:8]
	first, order := rank.Best(l), rank.Order(l)
	for range 50 {
		if rank.Best(l) != first || !slices.Equal(rank.Order(l), order) {
			t.Fatal("another answer")
		}
	}
	for i := range order {
		order[i] = 99
	}
	rank.Compare(l[0], l[1])
	same := func(a, b api.Cand) bool {
		as, bs := a.Attrs, b.Attrs
		a.Attrs, b.Attrs = api.Attrs{}, api.Attrs{}
		return attrs.Same(as, bs) && a.Peer == b.Peer && a.Ext == b.Ext && a.Near == b.Near && a.Id == b.Id && a.Addr == b.Addr
	}
	if !slices.EqualFunc(room, kept, same) || slices.Equal(rank.Order(l), order) {
		t.Error("what was handed in is another one")
	}
}

func TestWhateverComes(t *testing.T) {
	ends := []int{math.MinInt, -1 << 32, -2, -1, 0, 1, 1 << 32, math.MaxInt}
	var l []api.Cand
	for _, n := range ends {
		for _, m := range ends {
			l = append(l, like(pref(n), med(m), origin(m), peer(n), path(api.Segment{Kind: n}, api.Segment{Kind: m, AS: make([]uint32, 300)}, set())))
		}
	}
	if got, want := rank.Best(l), bestByWords(l); got != want {
		t.Error(got, want)
	}
	if len(rank.Order(l)) != len(l) {
		t.Error("not all")
	}
	for _, a := range l {
		for _, b := range l {
			way, _ := rank.Compare(a, b)
			if back, _ := rank.Compare(b, a); back != -way {
				t.Fatal(way, back)
			}
		}
	}
}
