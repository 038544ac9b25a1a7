package rib_test

import (
	"math"
	"slices"
	"testing"

	"speculum/api"
	"speculum/attrs"
	"speculum/rib"
)

// P18.1: which peers there are, and P18.2: what is told of them.

// some is so many peers, each of another system.
func some(n int) []api.Peer {
	var out []api.Peer
	for i := range n {
		out = append(out, outer(uint32(65002+i)))
	}
	return out
}

// refused holds that none of the calls does anything for a peer.
func refused(t *testing.T, name string, r *rib.Rib, k int, want api.Errno) {
	t.Helper()
	check := func(call string, got *rib.Rib, c rib.Change, e api.Errno) {
		t.Helper()
		// One that never changes may be told as it was, or not at all.
		if e != want || got != nil && got != r || len(c.Loc) != 0 || len(c.Outs) != 0 {
			t.Errorf("%s, %s of %d: %v, %+v", name, call, k, e, c)
		}
	}
	next, c, e := r.Up(k, 5)
	check("Up", next, c, e)
	next, c, e = r.Down(k)
	check("Down", next, c, e)
	next, c, over, e := r.Update(k, news(said("1"), "10.0.0.0/8"))
	check("Update", next, c, e)
	if over {
		t.Errorf("%s: a route is refused of %d", name, k)
	}
	for _, out := range []bool{false, true} {
		next, c, e = r.Soft(k, out)
		check("Soft", next, c, e)
		next, e = r.Rules(k, out, []api.Rule{deny})
		check("Rules", next, rib.Change{}, e)
		for _, l := range wrongRules() {
			next, e = r.Rules(k, out, l)
			check("Rules that may not be", next, rib.Change{}, e)
		}
	}
	if r.IsUp(k) {
		t.Errorf("%s: %d is up", name, k)
	}
}

// empty holds that a table tells nothing.
func empty(t *testing.T, name string, r *rib.Rib, table, k int) {
	t.Helper()
	none := api.Entry{}
	for _, p := range append(wrong(), parsed("0.0.0.0/0", "10.0.0.0/8", "10.1.2.3/32")...) {
		if x, ok := r.Get(table, k, p); ok || !sameEntry(x, none) {
			t.Error(name, table, k, p, x)
		}
		for _, first := range []bool{true, false} {
			for _, in := range []api.Prefix{whole, p} {
				if x, ok := r.Next(table, k, in, p, first); ok || !sameEntry(x, none) {
					t.Error(name, table, k, p, x)
				}
			}
		}
		if l := r.Covering(table, k, p); len(l) != 0 {
			t.Error(name, table, k, p, l)
		}
	}
	if l := r.All(table, k); len(l) != 0 {
		t.Error(name, table, k, l)
	}
}

func TestNew(t *testing.T) {
	for n := range 10 {
		r, want := rib.New(us, some(n)), min(n, 6)
		if r.Peers() != want {
			t.Errorf("%d of %d", r.Peers(), n)
		}
		for k := range want {
			if r.IsUp(k) {
				t.Errorf("%d is up", k)
			}
			if _, _, e := r.Up(k, 1); e != api.OK {
				t.Errorf("%d of %d: %v", k, n, e)
			}
		}
		for _, k := range []int{-1, math.MinInt, want, want + 1, math.MaxInt} {
			refused(t, "new", r, k, api.EPEER)
		}
		for table := range 3 {
			for k := -1; k <= n; k++ {
				empty(t, "new", r, table, k)
			}
		}
	}
	if r := rib.New(api.Local{}, nil); r == nil || r.Peers() != 0 {
		t.Error("no peers")
	}
}

func TestNilAndUnmade(t *testing.T) {
	for _, k := range []int{0, -1, 6, math.MinInt, math.MaxInt} {
		refused(t, "nil", nil, k, api.ENIL)
		refused(t, "a zero one", &rib.Rib{}, k, api.EPEER)
		for _, table := range []int{api.TLoc, api.TIn, api.TOut, 3, -1} {
			empty(t, "nil", nil, table, k)
			empty(t, "a zero one", &rib.Rib{}, table, k)
		}
	}
	var none *rib.Rib
	if none.Peers() != 0 || (&rib.Rib{}).Peers() != 0 {
		t.Error("peers of none")
	}
}

func TestStates(t *testing.T) {
	state := func(name string, r *rib.Rib, c rib.Change, e api.Errno) {
		t.Helper()
		if e != api.ESTATE || r != nil && r.Peers() == 0 || len(c.Loc) != 0 || len(c.Outs) != 0 {
			t.Errorf("%s: %v, %+v", name, e, c)
		}
	}
	w := begin(t, some(3)...)
	for range 2 {
		r, c, e := w.r.Down(1)
		state("Down of one who is not up", r, c, e)
		r, c, over, e := w.r.Update(1, news(said("1"), "10.0.0.0/8"))
		state("Update of one who is not up", r, c, e)
		if over {
			t.Error("a route is refused")
		}
		// Rules may be told, and count, whether or not one is up.
		w.soft(1, false).soft(1, true).rules(1, false).rules(1, true, deny)
		if w.r.IsUp(1) {
			t.Error("up by rules")
		}
		w.up(1)
		if !w.r.IsUp(1) || w.r.IsUp(0) || w.r.IsUp(2) {
			t.Error("who is up")
		}
		for _, id := range []uint32{2, 7} {
			r, c, e = w.r.Up(1, id)
			state("Up of one who is up", r, c, e)
		}
		w.tell(1, news(said("1"), "10.0.0.0/8")).has(api.TIn, 1, entry(1, "10.0.0.0/8", said("1")))
		r, c, e = w.r.Up(1, 2)
		state("Up of one who told something", r, c, e)
		w.has(api.TIn, 1, entry(1, "10.0.0.0/8", said("1")))
		w.down(1).has(api.TIn, 1)
		if w.r.IsUp(1) {
			t.Error("up behind Down")
		}
	}
}

// What one told is gone when it is up again, and nobody else's.
func TestUpHasNoRoutes(t *testing.T) {
	w := begin(t, some(2)...).up(0).up(1).tell(0, news(said("1"), "10.0.0.0/8")).tell(1, news(said("2"), "11.0.0.0/8"))
	w.down(0).up(0).has(api.TIn, 0).has(api.TIn, 1, entry(1, "11.0.0.0/8", said("2"))).taken(entry(1, "11.0.0.0/8", said("2")))
	w.changed(nil, parsed("11.0.0.0/8"), nil)
}

// P18.2 and P18.1: what came in is ribin's routes, of the peer's limit.

func TestLimit(t *testing.T) {
	w := begin(t, outer(65002, limit(2)), outer(65003, limit(0)), outer(65004, limit(-1))).up(0).up(1).up(2)
	for _, c := range []struct {
		name    string
		k       int
		u       api.Update
		refused bool
		want    []string
		changed []string
	}{
		{"the third of three", 0, news(said("1"), "12.0.0.0/8", "11.0.0.0/8", "10.0.0.0/8"), true, []string{"11.0.0.0/8", "12.0.0.0/8"}, []string{"11.0.0.0/8", "12.0.0.0/8"}},
		{"just these again", 0, news(said("1"), "12.0.0.0/8", "11.0.0.0/8"), false, []string{"11.0.0.0/8", "12.0.0.0/8"}, nil},
		{"one more", 0, news(said("1"), "9.0.0.0/8"), true, []string{"11.0.0.0/8", "12.0.0.0/8"}, nil},
		{"one goes, one comes", 0, api.Update{Gone: parsed("11.0.0.0/8"), Attrs: said("1"), News: parsed("9.0.0.0/8")}, false, []string{"9.0.0.0/8", "12.0.0.0/8"}, []string{"9.0.0.0/8", "11.0.0.0/8"}},
		{"not right ones", 0, api.Update{Gone: wrong(), Attrs: said("1"), News: wrong()}, false, []string{"9.0.0.0/8", "12.0.0.0/8"}, nil},
		{"nothing", 0, api.Update{}, false, []string{"9.0.0.0/8", "12.0.0.0/8"}, nil},
		{"no room at all", 1, news(said("1"), "9.0.0.0/8"), true, nil, nil},
		{"less than no room", 2, news(said("1"), "9.0.0.0/8"), true, nil, nil},
		{"nothing, without room", 1, gone("9.0.0.0/8"), false, nil, nil},
	} {
		r, change, over, e := w.r.Update(c.k, c.u)
		if over != c.refused {
			t.Errorf("%s: refused: %v", c.name, over)
		}
		var want []api.Entry
		for _, s := range c.want {
			want = append(want, entry(c.k, s, said("1")))
		}
		w.do(r, change, e).has(api.TIn, c.k, want...)
		l := parsed(c.changed...)
		for k, got := range append(change.Outs, change.Loc) {
			if k != c.k && !slices.Equal(got, l) {
				t.Errorf("%s: %+v", c.name, change)
			}
		}
	}
	// The limit counts again when the peer comes again.
	w.down(0).up(0).tell(0, news(said("1"), "1.0.0.0/8", "2.0.0.0/8"))
	if _, _, over, e := w.r.Update(0, news(said("1"), "3.0.0.0/8")); !over || e != api.OK {
		t.Error(over, e)
	}
}

// Rule 9: what is told need not be right.
func TestAnyAttributes(t *testing.T) {
	a := api.Attrs{Origin: 9, Med: 1 << 32, Pref: 1 << 32, AggrAS: 5, Path: []api.Segment{{Kind: 7}}, Raws: []api.Raw{{Type: 1}}}
	w := begin(t, outer(65002), outer(65003), inner(3)).up(0).up(1).up(2).tell(0, news(a, "0.0.0.0/0"))
	w.has(api.TIn, 0, entry(0, "0.0.0.0/0", a)).taken(entry(0, "0.0.0.0/0", a))
	// That path can't be made longer, but may go on as it is.
	w.changed(parsed("0.0.0.0/0"), nil, nil, parsed("0.0.0.0/0")).has(api.TOut, 1).has(api.TOut, 2, entry(2, "0.0.0.0/0", a))
	// The greatest Pref that may be is less.
	w.tell(1, news(said("1", pref(math.MaxUint32)), "0.0.0.0/0")).taken(entry(0, "0.0.0.0/0", a))
	w.tell(0, news(api.Attrs{Path: []api.Segment{{Kind: 7}, {}}, Pref: -1}, "0.0.0.0/0")).taken(entry(1, "0.0.0.0/0", said("1", pref(math.MaxUint32))))
}

// Rules 4 and 5: nothing that is handed in is changed, and the same is told each time.
func TestNothingHandedInIsChanged(t *testing.T) {
	peers := some(8)
	rules := []api.Rule{denyOf("11.0.0.0/8"), permit(setPref(7)), deny, deny}
	peers[0].In = rules[:2]
	u := api.Update{Gone: parsed("13.0.0.0/8", "12.0.0.0/8"), Attrs: said("9 8"), News: parsed("12.0.0.0/8", "10.0.0.0/8", "11.0.0.0/8", "1.0.0.0/8")[:3]}
	first := begin(t, peers[:2]...).up(0).up(1)
	for range 5 {
		w := &world{t: t, r: first.r}
		w.tell(0, u).changed(parsed("10.0.0.0/8", "12.0.0.0/8"), nil, parsed("10.0.0.0/8", "12.0.0.0/8"))
		w.taken(entry(0, "10.0.0.0/8", said("9 8", pref(7))), entry(0, "12.0.0.0/8", said("9 8", pref(7))))
		w.rules(0, false, rules[:1]...).rules(1, true, rules[1:3]...).soft(0, false).soft(1, true).down(0)
	}
	if u.Gone[0] != parse("13.0.0.0/8") || u.News[0] != parse("12.0.0.0/8") || u.News[:4][3] != parse("1.0.0.0/8") || !attrs.Same(u.Attrs, said("9 8")) {
		t.Error(u)
	}
	for k, p := range peers {
		if p.AS != uint32(65002+k) || p.Limit != 100 || len(p.Out) != 0 {
			t.Error(p)
		}
	}
	if len(peers[0].In) != 2 || len(rules[1].Deeds) != 1 || rules[2].Verdict != api.Deny || rules[3].Verdict != api.Deny {
		t.Error(rules)
	}
}

// Rule 3: an empty list is as good as nil.
func TestNilAndEmptyAreOne(t *testing.T) {
	bare := outer(65002)
	filled := outer(65002, ins([]api.Rule{}...), outs([]api.Rule{}...))
	filled.In, filled.Out = []api.Rule{}, []api.Rule{}
	a := said("7")
	b := a
	b.Comms, b.Raws = []uint32{}, []api.Raw{}
	for _, p := range []api.Peer{bare, filled} {
		w := begin(t, p, outer(65003)).up(0).up(1)
		w.tell(0, api.Update{Gone: []api.Prefix{}, Attrs: a, News: parsed("10.0.0.0/8")}).changed(parsed("10.0.0.0/8"), nil, parsed("10.0.0.0/8"))
		w.tell(0, api.Update{Attrs: b, News: parsed("10.0.0.0/8")}).changed(nil, nil, nil).taken(entry(0, "10.0.0.0/8", a))
		w.tell(0, api.Update{News: []api.Prefix{}}).changed(nil, nil, nil)
	}
	if r := rib.New(us, []api.Peer{}); r.Peers() != 0 {
		t.Error("no peers")
	}
}
