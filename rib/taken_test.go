package rib_test

import (
	"testing"

	"speculum/api"
)

// P18.1: what is taken.

const ten = "10.0.0.0/8"

func TestTheShorterPathIsTaken(t *testing.T) {
	w := begin(t, some(2)...).up(0).up(1)
	w.tell(0, news(said("65002 7"), ten)).taken(entry(0, ten, said("65002 7")))
	w.tell(1, news(said("65003 8 9"), ten)).taken(entry(0, ten, said("65002 7"))).changed(nil, nil, nil)
	w.down(0).taken(entry(1, ten, said("65003 8 9")))
	w.down(1).taken()
}

// duel is what two tell of a prefix, and which one is taken.
type duel struct {
	name string
	a, b api.Attrs
	want int
}

func TestTheBestIsTaken(t *testing.T) {
	duels := []duel{
		{"Pref", said("1"), said("2 3 4 5", pref(101)), 1},
		{"Pref that isn't said is 100", said("1 2"), said("3", pref(99)), 0},
		{"path", said("1 2"), said("3"), 1},
		{"origin", said("1", origin(2)), said("3", origin(1)), 1},
		{"Med of one Near", said("9 1", med(5)), said("9 2", med(4)), 1},
		{"Med of unlike ones", said("8 1", med(5)), said("9 2", med(4)), 0},
		{"all alike", said("1"), said("1"), 0},
	}
	for _, d := range duels {
		// Both are of other systems, and have the same Addr; the first one has the lesser id.
		peers := []api.Peer{outer(65002), outer(65003)}
		peers[1].Addr = peers[0].Addr
		both := []api.Attrs{d.a, d.b}
		for _, first := range []int{0, 1} {
			w := begin(t, peers...).upAs(0, 1).upAs(1, 2)
			w.tell(first, news(both[first], ten)).tell(1-first, news(both[1-first], ten))
			w.taken(entry(d.want, ten, both[d.want]))
			if t.Failed() {
				t.Fatal(d.name)
			}
		}
	}
}

func TestWhoTellsItIsAsked(t *testing.T) {
	a := said("7 8")
	for name, c := range map[string]struct {
		peers []api.Peer
		ids   []uint32
		want  int
	}{
		"the lesser id":             {some(2), []uint32{9, 8}, 1},
		"the lesser id, the first":  {some(2), []uint32{8, 9}, 0},
		"the lesser Addr":           {[]api.Peer{outer(65003), outer(65002)}, []uint32{9, 9}, 1},
		"the lesser Peer":           {[]api.Peer{outer(65002), outer(65002)}, []uint32{9, 9}, 0},
		"another system's":          {[]api.Peer{inner(1), outer(65009)}, []uint32{1, 2}, 1},
		"one of six":                {some(6), []uint32{9, 8, 7, 4, 6, 5}, 3},
		"the last of six":           {some(6), []uint32{9, 8, 7, 6, 5, 4}, 5},
		"the greatest ids":          {some(2), []uint32{1<<32 - 1, 1 << 31}, 1},
		"inner ones by their ids":   {[]api.Peer{inner(1), inner(2)}, []uint32{2, 1}, 1},
		"inner ones by their Addrs": {[]api.Peer{inner(2), inner(1)}, []uint32{2, 2}, 1},
	} {
		w := begin(t, c.peers...)
		for k, id := range c.ids {
			w.upAs(k, id)
		}
		for k := range c.ids {
			w.tell(k, news(a, ten))
		}
		w.taken(entry(c.want, ten, a))
		if t.Failed() {
			t.Fatal(name)
		}
	}
}

// Its id is the one with which a peer is up now.
func TestTheLastIdCounts(t *testing.T) {
	w := begin(t, some(2)...).upAs(0, 5).upAs(1, 6).tell(0, news(said("1"), ten)).tell(1, news(said("2"), ten)).taken(entry(0, ten, said("1")))
	w.down(0).upAs(0, 7).tell(0, news(said("1"), ten)).taken(entry(1, ten, said("2"))).changed(nil, nil, nil)
	w.down(0).upAs(0, 4).tell(0, news(said("1"), ten)).taken(entry(0, ten, said("1")))
}

func TestRulesOfWhatComesIn(t *testing.T) {
	for name, c := range map[string]struct {
		rules []api.Rule
		want  []api.Entry
	}{
		"none":             {nil, []api.Entry{entry(0, ten, said("1", pref(50))), entry(0, "11.0.0.0/8", said("1", pref(50)))}},
		"deny":             {[]api.Rule{deny}, []api.Entry{entry(1, ten, said("2 3"))}},
		"deny one":         {[]api.Rule{denyOf("11.0.0.0/8"), permit()}, []api.Entry{entry(0, ten, said("1", pref(50)))}},
		"deny the other":   {[]api.Rule{denyOf(ten), permit()}, []api.Entry{entry(1, ten, said("2 3")), entry(0, "11.0.0.0/8", said("1", pref(50)))}},
		"none permits":     {[]api.Rule{{Deeds: []api.Deed{setMed(1)}, Verdict: api.Go}}, []api.Entry{entry(1, ten, said("2 3"))}},
		"a lesser Pref":    {[]api.Rule{permit(setPref(49))}, []api.Entry{entry(1, ten, said("2 3")), entry(0, "11.0.0.0/8", said("1", pref(49)))}},
		"a greater Pref":   {[]api.Rule{permit(setPref(51))}, []api.Entry{entry(0, ten, said("1", pref(51))), entry(0, "11.0.0.0/8", said("1", pref(51)))}},
		"a Med of one":     {[]api.Rule{permitOf(ten, setMed(4)), permit()}, []api.Entry{entry(0, ten, said("1", pref(50), med(4))), entry(0, "11.0.0.0/8", said("1", pref(50)))}},
		"not right":        {wrongRules()["a wrong deed"], []api.Entry{entry(1, ten, said("2 3"))}},
		"a number ahead":   {[]api.Rule{permit(api.Deed{Kind: api.APrepend, Num: 2, Addr: 1})}, []api.Entry{entry(1, ten, said("2 3")), entry(0, "11.0.0.0/8", said("1 1 1", pref(50)))}},
		"another next one": {[]api.Rule{permit(api.Deed{Kind: api.ANext, Addr: 50 << 24})}, []api.Entry{entry(0, ten, said("1", pref(50), next(50<<24))), entry(0, "11.0.0.0/8", said("1", pref(50), next(50<<24)))}},
	} {
		// The other one's rules for what goes out say nothing here, nor do the first one's.
		w := begin(t, outer(65002, ins(c.rules...), outs(deny)), outer(65003, ins(permit(setPref(50))), outs(deny))).up(0).up(1)
		w.tell(0, news(said("1", pref(50)), ten, "11.0.0.0/8")).tell(1, news(said("2 3"), ten))
		// What came in stays as it was told.
		w.has(api.TIn, 0, entry(0, ten, said("1", pref(50))), entry(0, "11.0.0.0/8", said("1", pref(50)))).has(api.TIn, 1, entry(1, ten, said("2 3")))
		for i := range c.want {
			if c.want[i].From == 1 {
				c.want[i].Attrs.Pref = 50
			}
		}
		w.taken(c.want...)
		if t.Failed() {
			t.Fatal(name)
		}
	}
}

func TestWhatHasThisSidesNumber(t *testing.T) {
	w := begin(t, some(2)...).up(0).up(1)
	for _, path := range []string{"65001", "7 65001", "7 {8,65001}"} {
		w.tell(0, news(said(path), ten)).has(api.TIn, 0, entry(0, ten, said(path))).taken().changed(nil, nil, nil)
	}
	w.tell(1, news(said("7 8 9 9 9"), ten)).taken(entry(1, ten, said("7 8 9 9 9")))
	w.tell(0, news(said("7"), ten)).taken(entry(0, ten, said("7")))
	w.tell(0, news(said("7 65001"), ten)).taken(entry(1, ten, said("7 8 9 9 9")))
}

func TestWhatGoes(t *testing.T) {
	w := begin(t, some(3)...).up(0).up(1).up(2)
	w.tell(0, news(said("1"), ten, "11.0.0.0/8")).tell(1, news(said("2 3"), ten)).tell(2, news(said("4 5 6"), ten))
	w.tell(0, gone(ten)).taken(entry(1, ten, said("2 3")), entry(0, "11.0.0.0/8", said("1")))
	w.tell(1, gone(ten)).taken(entry(2, ten, said("4 5 6")), entry(0, "11.0.0.0/8", said("1")))
	w.tell(2, gone(ten)).taken(entry(0, "11.0.0.0/8", said("1")))
	w.tell(0, gone(ten, "11.0.0.0/8", "12.0.0.0/8")).taken()
	// What goes and comes in one update is there.
	w.tell(0, api.Update{Gone: parsed(ten), Attrs: said("1"), News: parsed(ten)}).taken(entry(0, ten, said("1")))
	w.tell(0, api.Update{Gone: parsed(ten), Attrs: said("8"), News: parsed(ten)}).taken(entry(0, ten, said("8")))
}

// P18.5

func TestDownAndUpAgain(t *testing.T) {
	l := []api.Update{
		news(said("1 2"), ten, "11.0.0.0/8", "10.1.0.0/16"), news(said("5", pref(70)), "10.1.0.0/16", "0.0.0.0/0"),
		gone("11.0.0.0/8"), {Gone: parsed(ten), Attrs: said("9", med(4)), News: parsed("10.2.0.0/16", ten)},
	}
	// Some of these are refused of the last peer.
	tell := func(w *world, k int) {
		for _, u := range l[:len(l)-k] {
			r, c, _, e := w.r.Update(k, u)
			w.do(r, c, e)
		}
	}
	for k := range 3 {
		peers := []api.Peer{outer(65002, ins(permitOf("10.1.0.0/16", setPref(300)), permit())), inner(5), outer(65004, limit(3), outs(denyOf("11.0.0.0/8"), permit()))}
		w := begin(t, peers...)
		for i := range peers {
			tell(w.up(i), i)
		}
		before := w.r
		w.down(k)
		if len(w.r.All(api.TIn, k)) != 0 || len(w.r.All(api.TOut, k)) != 0 {
			t.Error(k, "has something")
		}
		tell(w.up(k), k)
		for table := range 3 {
			for i := range peers {
				w.has(table, i, before.All(table, i)...)
			}
		}
	}
}

// In whichever order three peers' updates come, each one's one behind the other, all tables are the same in the end.
func TestWhateverTheOrder(t *testing.T) {
	lists := [][]api.Update{
		{news(said("7 1", med(5)), ten, "11.0.0.0/8"), gone("11.0.0.0/8")},
		{news(said("7 2", med(4)), ten), news(said("8"), "11.0.0.0/8", ten)},
		{news(said("6", origin(1)), ten, "12.0.0.0/8"), news(said("5 5"), ten)},
	}
	peers := []api.Peer{outer(65002), inner(7), outer(65004, ins(permit(setMed(9))))}
	var first *world
	orders := 0
	var walk func(w *world, at [3]int)
	walk = func(w *world, at [3]int) {
		done := true
		for k, i := range at {
			if i < len(lists[k]) {
				done = false
				on := at
				on[k]++
				walk((&world{t: t, r: w.r}).tell(k, lists[k][i]), on)
			}
		}
		if !done {
			return
		}
		orders++
		if first == nil {
			first = w
		}
		for table := range 3 {
			for k := range peers {
				w.has(table, k, first.r.All(table, k)...)
			}
		}
	}
	walk(begin(t, peers...).up(0).up(1).up(2), [3]int{})
	if orders != 90 || len(first.r.All(api.TLoc, 0)) != 3 {
		t.Error(orders, first.r.All(api.TLoc, 0))
	}
}
