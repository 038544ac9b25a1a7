package ribin_test

import (
	"math"
	"slices"
	"testing"

	"speculum/api"
	"speculum/attrs"
	"speculum/prefix"
	"speculum/ptrie"
	"speculum/ribin"
)

var whole = api.Prefix{}

func parse(s string) api.Prefix {
	p, ok := prefix.Parse(s)
	if !ok {
		panic(s)
	}
	return p
}

func parsed(l ...string) []api.Prefix {
	var out []api.Prefix
	for _, s := range l {
		out = append(out, parse(s))
	}
	return out
}

// said is attributes that are told apart by a number.
func said(n int) api.Attrs {
	a := attrs.Zero()
	a.Path = []api.Segment{{Kind: api.Seq, AS: []uint32{uint32(n), 7}}}
	a.Med = n
	a.Comms = []uint32{1, uint32(n)}
	return a
}

func update(n int, gone []api.Prefix, news ...string) api.Update {
	return api.Update{Gone: gone, Attrs: said(n), News: parsed(news...)}
}

func news(n int, l ...string) api.Update { return update(n, nil, l...) }

// wrong is prefixes that are not right.
func wrong() []api.Prefix {
	return []api.Prefix{{Addr: 1, Len: 0}, {Addr: 10<<24 | 1, Len: 8}, {Len: -1}, {Len: 33}, {Len: math.MinInt}, {Len: math.MaxInt}, {Addr: math.MaxUint32, Len: 31}}
}

// is holds all that routes tell against what they have to have.
func is(t *testing.T, name string, x *ribin.In, limit int, want map[api.Prefix]int) {
	t.Helper()
	var keys []api.Prefix
	table := x.Table()
	for p, n := range want {
		keys = append(keys, p)
		if a, ok := x.Get(p); !ok || !attrs.Same(a, said(n)) {
			t.Errorf("%s: at %v: %+v, %v", name, p, a, ok)
		}
		if a, ok := table.Get(p); !ok || !attrs.Same(a, said(n)) {
			t.Errorf("%s: in the table at %v: %+v, %v", name, p, a, ok)
		}
	}
	slices.SortFunc(keys, prefix.Compare)
	if !slices.Equal(x.Keys(), keys) || !slices.Equal(table.Keys(whole), keys) {
		t.Errorf("%s: %v, not %v", name, x.Keys(), keys)
	}
	if x.Len() != len(keys) || table.Len() != len(keys) || x.Limit() != limit {
		t.Errorf("%s: %d of %d", name, x.Len(), x.Limit())
	}
}

// P16.1

func TestNew(t *testing.T) {
	for limit, want := range map[int]int{0: 0, 1: 1, 200: 200, -1: 0, math.MinInt: 0, math.MaxInt: math.MaxInt} {
		x := ribin.New(limit)
		is(t, "new", x, want, nil)
		if a, ok := x.Get(whole); ok || !attrs.Same(a, api.Attrs{}) {
			t.Error(a, ok)
		}
	}
}

// step is an update, and what is told of it.
type step struct {
	name    string
	u       api.Update
	has     map[api.Prefix]int
	changed []api.Prefix
	refused bool
}

func at(n int, l ...string) map[api.Prefix]int {
	out := map[api.Prefix]int{}
	for _, p := range parsed(l...) {
		out[p] = n
	}
	return out
}

func both(a, b map[api.Prefix]int) map[api.Prefix]int {
	out := map[api.Prefix]int{}
	for p, n := range a {
		out[p] = n
	}
	for p, n := range b {
		out[p] = n
	}
	return out
}

// walk does updates one behind the other.
func walk(t *testing.T, limit int, l []step) {
	t.Helper()
	x := ribin.New(limit)
	for _, s := range l {
		next, changed, refused := x.Update(s.u)
		if !slices.Equal(changed, s.changed) || refused != s.refused {
			t.Errorf("limit %d, %s: %v, %v", limit, s.name, changed, refused)
		}
		is(t, s.name, next, max(limit, 0), s.has)
		x = next
	}
}

func TestUpdate(t *testing.T) {
	walk(t, 10, []step{
		{"nothing", api.Update{}, nil, nil, false},
		{"attributes alone", news(1), nil, nil, false},
		{"one", news(1, "10.0.0.0/8"), at(1, "10.0.0.0/8"), parsed("10.0.0.0/8"), false},
		{"just the same", news(1, "10.0.0.0/8"), at(1, "10.0.0.0/8"), nil, false},
		{"something else", news(2, "10.0.0.0/8"), at(2, "10.0.0.0/8"), parsed("10.0.0.0/8"), false},
		{"more, in any order", news(3, "11.0.0.0/8", "0.0.0.0/0", "10.0.0.0/9"), both(at(2, "10.0.0.0/8"), at(3, "11.0.0.0/8", "0.0.0.0/0", "10.0.0.0/9")), parsed("0.0.0.0/0", "10.0.0.0/9", "11.0.0.0/8"), false},
		{"some as they were, some not", news(3, "11.0.0.0/8", "10.0.0.0/8", "10.0.0.0/9"), at(3, "10.0.0.0/8", "11.0.0.0/8", "0.0.0.0/0", "10.0.0.0/9"), parsed("10.0.0.0/8"), false},
		{"gone", update(9, parsed("11.0.0.0/8", "10.0.0.0/9")), at(3, "10.0.0.0/8", "0.0.0.0/0"), parsed("10.0.0.0/9", "11.0.0.0/8"), false},
		{"gone again", update(9, parsed("11.0.0.0/8", "10.0.0.0/9", "12.0.0.0/8")), at(3, "10.0.0.0/8", "0.0.0.0/0"), nil, false},
		{"gone, and new as it was", update(3, parsed("10.0.0.0/8"), "10.0.0.0/8"), at(3, "10.0.0.0/8", "0.0.0.0/0"), nil, false},
		{"gone, and new otherwise", update(4, parsed("10.0.0.0/8"), "10.0.0.0/8"), both(at(4, "10.0.0.0/8"), at(3, "0.0.0.0/0")), parsed("10.0.0.0/8"), false},
		{"gone, though it was not there, and new", update(4, parsed("9.0.0.0/8"), "9.0.0.0/8"), both(at(4, "10.0.0.0/8", "9.0.0.0/8"), at(3, "0.0.0.0/0")), parsed("9.0.0.0/8"), false},
		{"gone twice", update(4, parsed("9.0.0.0/8", "9.0.0.0/8")), both(at(4, "10.0.0.0/8"), at(3, "0.0.0.0/0")), parsed("9.0.0.0/8"), false},
		{"new twice", news(5, "9.0.0.0/8", "10.0.0.0/8", "9.0.0.0/8"), both(at(5, "10.0.0.0/8", "9.0.0.0/8"), at(3, "0.0.0.0/0")), parsed("9.0.0.0/8", "10.0.0.0/8"), false},
		{"not right ones are gone", update(5, wrong()), both(at(5, "10.0.0.0/8", "9.0.0.0/8"), at(3, "0.0.0.0/0")), nil, false},
		{"not right ones are new", api.Update{Attrs: said(6), News: wrong()}, both(at(5, "10.0.0.0/8", "9.0.0.0/8"), at(3, "0.0.0.0/0")), nil, false},
		{"right ones among them", api.Update{Gone: append(wrong(), parse("0.0.0.0/0")), Attrs: said(6), News: append(wrong(), parse("1.2.3.4/32"))}, both(at(5, "10.0.0.0/8", "9.0.0.0/8"), at(6, "1.2.3.4/32")), parsed("0.0.0.0/0", "1.2.3.4/32"), false},
		{"all gone", update(7, parsed("1.2.3.4/32", "10.0.0.0/8", "9.0.0.0/8")), nil, parsed("1.2.3.4/32", "9.0.0.0/8", "10.0.0.0/8"), false},
	})
}

func TestLimit(t *testing.T) {
	for _, limit := range []int{0, -1, math.MinInt} {
		walk(t, limit, []step{
			{"none may be", news(1, "10.0.0.0/8"), nil, nil, true},
			{"nothing", api.Update{}, nil, nil, false},
			{"not right ones are not refused", api.Update{Attrs: said(1), News: wrong()}, nil, nil, false},
			{"a right one behind them is", api.Update{Attrs: said(1), News: append(wrong(), whole)}, nil, nil, true},
			{"gone is none of these", update(1, parsed("10.0.0.0/8")), nil, nil, false},
		})
	}
	walk(t, 1, []step{
		{"the second of two", news(1, "10.0.0.0/8", "9.0.0.0/8"), at(1, "10.0.0.0/8"), parsed("10.0.0.0/8"), true},
		{"one that is there already", news(2, "10.0.0.0/8"), at(2, "10.0.0.0/8"), parsed("10.0.0.0/8"), false},
		{"just as it was", news(2, "10.0.0.0/8", "10.0.0.0/8"), at(2, "10.0.0.0/8"), nil, false},
		{"one that is there, behind a refused one", news(3, "9.0.0.0/8", "10.0.0.0/8"), at(2, "10.0.0.0/8"), nil, true},
		{"one that is there, ahead of a refused one", news(3, "10.0.0.0/8", "9.0.0.0/8"), at(3, "10.0.0.0/8"), parsed("10.0.0.0/8"), true},
		{"a refused one behind not right ones", api.Update{Attrs: said(4), News: append(wrong(), parse("9.0.0.0/8"))}, at(3, "10.0.0.0/8"), nil, true},
		{"not right ones behind what is full", api.Update{Attrs: said(4), News: append(parsed("10.0.0.0/8"), wrong()...)}, at(4, "10.0.0.0/8"), parsed("10.0.0.0/8"), false},
		{"room by what is gone", update(5, parsed("10.0.0.0/8"), "9.0.0.0/8"), at(5, "9.0.0.0/8"), parsed("9.0.0.0/8", "10.0.0.0/8"), false},
		{"gone and new, but behind another one", update(6, parsed("9.0.0.0/8"), "8.0.0.0/8", "9.0.0.0/8"), at(6, "8.0.0.0/8"), parsed("8.0.0.0/8", "9.0.0.0/8"), true},
		{"no room by what was not there", update(7, parsed("9.0.0.0/8"), "9.0.0.0/8"), at(6, "8.0.0.0/8"), nil, true},
	})
	walk(t, 3, []step{
		{"two", news(1, "1.0.0.0/8", "2.0.0.0/8"), at(1, "1.0.0.0/8", "2.0.0.0/8"), parsed("1.0.0.0/8", "2.0.0.0/8"), false},
		{"just reached", news(1, "1.0.0.0/8", "3.0.0.0/8", "3.0.0.0/8"), at(1, "1.0.0.0/8", "2.0.0.0/8", "3.0.0.0/8"), parsed("3.0.0.0/8"), false},
		{"one more, and all behind it", news(2, "1.0.0.0/8", "4.0.0.0/8", "2.0.0.0/8", "3.0.0.0/8", "5.0.0.0/8"), both(at(2, "1.0.0.0/8"), at(1, "2.0.0.0/8", "3.0.0.0/8")), parsed("1.0.0.0/8"), true},
		{"two gone, three new", update(3, parsed("1.0.0.0/8", "3.0.0.0/8"), "5.0.0.0/8", "4.0.0.0/8", "6.0.0.0/8"), both(at(3, "4.0.0.0/8", "5.0.0.0/8"), at(1, "2.0.0.0/8")), parsed("1.0.0.0/8", "3.0.0.0/8", "4.0.0.0/8", "5.0.0.0/8"), true},
	})
}

// Attributes are not asked whether they are right.
func TestAnyAttributes(t *testing.T) {
	a := api.Attrs{Origin: 9, Med: 1 << 32, Pref: -7, AggrAS: 5, Path: []api.Segment{{Kind: 7}}, Raws: []api.Raw{{Type: 1}}}
	x, changed, refused := ribin.New(1).Update(api.Update{Attrs: a, News: []api.Prefix{whole}})
	if got, ok := x.Get(whole); !ok || !attrs.Same(got, a) || len(changed) != 1 || refused {
		t.Error(got, ok, changed, refused)
	}
	b := a
	b.Raws = []api.Raw{{Type: 1, Data: []byte{1}}}
	if _, changed, _ = x.Update(api.Update{Attrs: b, News: []api.Prefix{whole}}); len(changed) != 1 {
		t.Error("a byte more is something else")
	}
	b.Raws, b.Comms = []api.Raw{{Type: 1, Data: []byte{}}}, []uint32{}
	if _, changed, _ = x.Update(api.Update{Attrs: b, News: []api.Prefix{whole}}); len(changed) != 0 {
		t.Error("nil and empty are one")
	}
}

// P16.2

func TestGetAndTable(t *testing.T) {
	x, _, _ := ribin.New(5).Update(news(1, "10.0.0.0/8", "10.1.0.0/16"))
	for _, p := range append(wrong(), parsed("0.0.0.0/0", "10.0.0.0/9", "10.1.0.0/17", "11.0.0.0/8")...) {
		if a, ok := x.Get(p); ok || !attrs.Same(a, api.Attrs{}) {
			t.Error(p, a, ok)
		}
	}
	if l := x.Table().Covering(parse("10.1.2.3/32")); !slices.Equal(l, parsed("10.0.0.0/8", "10.1.0.0/16")) {
		t.Error(l)
	}
	// Another table is made of that one, and the routes stay.
	y, _ := x.Table().Put(whole, said(9))
	z, _ := y.Del(parse("10.0.0.0/8"))
	is(t, "behind another table", x, 5, at(1, "10.0.0.0/8", "10.1.0.0/16"))
	if z.Len() != 2 {
		t.Error(z.Len())
	}
}

func TestNil(t *testing.T) {
	for _, x := range []*ribin.In{nil, {}} {
		is(t, "nil", x, 0, nil)
		if x.Table() == nil || x.Table().Nodes() != 0 {
			t.Error("no table")
		}
		if a, ok := x.Get(whole); ok || !attrs.Same(a, api.Attrs{}) {
			t.Error(a, ok)
		}
		y, changed, refused := x.Update(update(1, parsed("10.0.0.0/8"), "10.0.0.0/8", "11.0.0.0/8"))
		if len(changed) != 0 || !refused {
			t.Error(changed, refused)
		}
		is(t, "nil, behind an update", y, 0, nil)
		y, changed, refused = x.Update(api.Update{})
		if y == nil || len(changed) != 0 || refused {
			t.Error(y, changed, refused)
		}
	}
}

// P16.3, and that nothing changes routes

// chance is numbers that come the same each time.
type chance uint32

func (x *chance) below(n int) int {
	*x ^= *x << 13
	*x ^= *x >> 17
	*x ^= *x << 5
	return int(uint32(*x) % uint32(n))
}

// prefixes is some of few, of which one of eight is not right.
func (x *chance) prefixes(n int) []api.Prefix {
	var out []api.Prefix
	for range n {
		p := prefix.Norm(uint32(x.below(4))<<30, x.below(4))
		if x.below(8) == 0 {
			p = wrong()[x.below(len(wrong()))]
		}
		out = append(out, p)
	}
	return out
}

// moment is routes, and what they had when they were made.
type moment struct {
	in    *ribin.In
	limit int
	has   map[api.Prefix]int
}

// by is the words of P16.1, in a map.
func (m moment) by(n int, u api.Update) (map[api.Prefix]int, bool) {
	has := both(m.has, nil)
	for _, p := range u.Gone {
		delete(has, p)
	}
	for _, p := range u.News {
		if !prefix.Right(p) {
			continue
		}
		if _, was := has[p]; !was && len(has) >= m.limit {
			return has, true
		}
		has[p] = n
	}
	return has, false
}

func TestAsTheWordsSay(t *testing.T) {
	x := chance(2463534242)
	var moments []moment
	for limit := range 8 {
		moments = append(moments, moment{ribin.New(limit), limit, nil})
	}
	refusals := 0
	for range 6000 {
		// Not only the last one goes on.
		m := moments[len(moments)-1-x.below(min(len(moments), 30))]
		n := x.below(3)
		u := api.Update{Gone: x.prefixes(x.below(4)), Attrs: said(n), News: x.prefixes(x.below(6))}
		has, refused := m.by(n, u)
		next, changed, got := m.in.Update(u)
		if got != refused {
			t.Fatal(u, m.has, got)
		}
		if refused {
			refusals++
		}
		var want []api.Prefix
		for p := range both(m.has, has) {
			a, was := m.in.Get(p)
			b, stays := next.Get(p)
			if was != stays || !attrs.Same(a, b) {
				want = append(want, p)
			}
		}
		slices.SortFunc(want, prefix.Compare)
		if !slices.Equal(changed, want) {
			t.Fatalf("%v, not %v", changed, want)
		}
		if next.Len() > m.limit {
			t.Fatal("more than the limit")
		}
		is(t, "by chance", next, m.limit, has)
		moments = append(moments, moment{next, m.limit, has})
	}
	if refusals < 100 || refusals > 5900 {
		t.Error(refusals)
	}
	for _, m := range moments {
		is(t, "what was made earlier", m.in, m.limit, m.has)
	}
}

// Rules 4 and 5

func TestNothingHandedInIsChanged(t *testing.T) {
	gone := parsed("11.0.0.0/8", "10.0.0.0/8", "11.0.0.0/8", "1.0.0.0/8")
	fresh := parsed("12.0.0.0/8", "9.0.0.0/8", "12.0.0.0/8", "2.0.0.0/8")
	u := api.Update{Gone: gone[:3], Attrs: said(4), News: fresh[:3]}
	x, _, _ := ribin.New(9).Update(news(1, "10.0.0.0/8", "11.0.0.0/8"))
	var first *ribin.In
	for range 10 {
		y, changed, refused := x.Update(u)
		if !slices.Equal(changed, parsed("9.0.0.0/8", "10.0.0.0/8", "11.0.0.0/8", "12.0.0.0/8")) || refused {
			t.Fatal(changed, refused)
		}
		for i := range changed {
			changed[i] = whole
		}
		_ = append(changed, whole)
		first = y
	}
	if !slices.Equal(gone, parsed("11.0.0.0/8", "10.0.0.0/8", "11.0.0.0/8", "1.0.0.0/8")) || !slices.Equal(fresh, parsed("12.0.0.0/8", "9.0.0.0/8", "12.0.0.0/8", "2.0.0.0/8")) || !attrs.Same(u.Attrs, said(4)) {
		t.Error(u)
	}
	is(t, "ahead", x, 9, at(1, "10.0.0.0/8", "11.0.0.0/8"))
	is(t, "behind", first, 9, at(4, "9.0.0.0/8", "12.0.0.0/8"))
}

// A trie that was told is of the type that others lean on.
var _ *ptrie.Trie[api.Attrs] = ribin.New(0).Table()
