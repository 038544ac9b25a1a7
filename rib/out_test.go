package rib_test

import (
	"testing"

	"speculum/api"
)

// P18.1: what goes out.

// told is attributes as they go to one of another system.
func told(path string, change ...func(*api.Attrs)) api.Attrs {
	return said("65001 "+path, append([]func(*api.Attrs){next(us.Addr)}, change...)...)
}

func TestWhatGoesOut(t *testing.T) {
	// 0 and 1 are of other systems, 2 and 3 of this one; 4 is never up.
	w := begin(t, outer(65002), outer(65003), inner(3), inner(4), outer(65004)).up(0).up(1).up(2).up(3)
	w.tell(0, news(said("65002 7", med(5)), ten))
	w.has(api.TOut, 0).has(api.TOut, 1, entry(1, ten, told("65002 7")))
	w.has(api.TOut, 2, entry(2, ten, said("65002 7", med(5), pref(100)))).has(api.TOut, 3, entry(3, ten, said("65002 7", med(5), pref(100))))
	w.has(api.TOut, 4)
	// Of one of this system nothing goes to another one of it.
	w.tell(2, news(said("8", pref(300), med(6)), ten))
	w.has(api.TOut, 0, entry(0, ten, told("8"))).has(api.TOut, 1, entry(1, ten, told("8")))
	w.has(api.TOut, 2).has(api.TOut, 3).has(api.TOut, 4)
	// What is told but not taken does not go out.
	w.tell(1, news(said("9 9", pref(299)), ten)).has(api.TOut, 0, entry(0, ten, told("8"))).changed(nil, nil, nil, nil, nil, nil)
	w.down(2).has(api.TOut, 0, entry(0, ten, told("9 9"))).has(api.TOut, 1).has(api.TOut, 2).has(api.TOut, 3, entry(3, ten, said("9 9", pref(299))))
	w.tell(1, news(said("9 9", pref(299), comms(noAdvertise)), ten)).has(api.TOut, 0).has(api.TOut, 3).taken(entry(1, ten, said("9 9", pref(299), comms(noAdvertise))))
}

func TestWhoIsNotUpGetsNothing(t *testing.T) {
	w := begin(t, some(3)...).up(0).tell(0, news(said("1"), ten, "11.0.0.0/8"))
	w.has(api.TOut, 1).has(api.TOut, 2).changed(parsed(ten, "11.0.0.0/8"), nil, nil, nil)
	w.up(1).has(api.TOut, 1, entry(1, ten, told("1")), entry(1, "11.0.0.0/8", told("1"))).has(api.TOut, 2)
	w.changed(nil, nil, parsed(ten, "11.0.0.0/8"), nil)
	w.tell(0, gone(ten)).has(api.TOut, 1, entry(1, "11.0.0.0/8", told("1")))
	w.down(1).has(api.TOut, 1).changed(nil, nil, parsed("11.0.0.0/8"), nil)
	w.tell(0, news(said("1"), ten)).has(api.TOut, 1).changed(parsed(ten), nil, nil, nil)
	w.up(1).has(api.TOut, 1, entry(1, ten, told("1")), entry(1, "11.0.0.0/8", told("1")))
	// Who goes down hears nothing of what is taken then.
	w.tell(1, news(said(""), ten)).has(api.TOut, 0, entry(0, ten, said("65001", next(us.Addr))))
	w.down(0).has(api.TOut, 0).has(api.TOut, 1).has(api.TOut, 2).changed(parsed("11.0.0.0/8"), parsed(ten), parsed("11.0.0.0/8"), nil)
}

func TestRulesOfWhatGoesOut(t *testing.T) {
	both := func(k int, a api.Attrs) []api.Entry { return []api.Entry{entry(k, ten, a), entry(k, "11.0.0.0/8", a)} }
	for name, c := range map[string]struct {
		rules []api.Rule
		outer []api.Entry
		inner []api.Entry
	}{
		"none":           {nil, both(1, told("1")), both(2, said("1", pref(100)))},
		"deny":           {[]api.Rule{deny}, nil, nil},
		"deny one":       {[]api.Rule{denyOf(ten), permit()}, []api.Entry{entry(1, "11.0.0.0/8", told("1"))}, []api.Entry{entry(2, "11.0.0.0/8", said("1", pref(100)))}},
		"Med":            {[]api.Rule{permit(setMed(3))}, both(1, told("1", med(3))), both(2, said("1", pref(100), med(3)))},
		"Pref":           {[]api.Rule{permit(setPref(3))}, both(1, told("1")), both(2, said("1", pref(3)))},
		"a number ahead": {[]api.Rule{permit(api.Deed{Kind: api.APrepend, Num: 1, Addr: 65001})}, both(1, told("65001 1")), both(2, said("65001 1", pref(100)))},
		"not right":      {wrongRules()["no verdict"], nil, nil},
	} {
		// Rules for what comes in of these two say nothing here.
		w := begin(t, outer(65002, outs(deny)), outer(65003, outs(c.rules...), ins(deny)), inner(3, outs(c.rules...), ins(deny))).up(0).up(1).up(2)
		w.tell(0, news(said("1"), ten, "11.0.0.0/8"))
		w.has(api.TOut, 1, c.outer...).has(api.TOut, 2, c.inner...)
		// So it is of one who is up later.
		w.down(1).down(2).has(api.TOut, 1).has(api.TOut, 2).up(1).up(2)
		w.has(api.TOut, 1, c.outer...).has(api.TOut, 2, c.inner...)
		if t.Failed() {
			t.Fatal(name)
		}
	}
}

// What rules of In change goes out as they changed it.
func TestWhatCameInByRulesGoesOut(t *testing.T) {
	w := begin(t, outer(65002, ins(permit(setPref(77), setMed(8), api.Deed{Kind: api.AAdd, Addr: 5}))), outer(65003), inner(3)).up(0).up(1).up(2)
	w.tell(0, news(said("1"), ten)).has(api.TOut, 1, entry(1, ten, told("1", comms(5)))).has(api.TOut, 2, entry(2, ten, said("1", pref(77), med(8), comms(5))))
}

// P18.4: what is told as changed.

func TestWhatIsChanged(t *testing.T) {
	eleven := "11.0.0.0/8"
	w := begin(t, outer(65002), outer(65003), outer(65004), inner(4)).up(0).up(1).up(2).changed(nil, nil, nil, nil, nil)
	w.tell(0, news(said("1 2 3"), eleven, ten)).changed(parsed(ten, eleven), nil, parsed(ten, eleven), parsed(ten, eleven), nil)
	w.tell(0, news(said("1 2 3"), eleven, ten)).changed(nil, nil, nil, nil, nil)
	w.tell(0, gone("12.0.0.0/8")).changed(nil, nil, nil, nil, nil)
	w.tell(0, api.Update{}).changed(nil, nil, nil, nil, nil)
	// Something else is told, but not taken.
	w.tell(1, news(said("1 2 3 4"), ten)).changed(nil, nil, nil, nil, nil)
	// Another peer's is taken: to whom it came from it goes no more, to the other one now.
	w.tell(1, news(said("1 2"), ten)).changed(parsed(ten), parsed(ten), parsed(ten), parsed(ten), nil)
	// The same is taken, and goes out just as it did, of another peer: the third one hears nothing.
	w.tell(2, news(said("1 2"), eleven)).changed(parsed(eleven), parsed(eleven), parsed(eleven), parsed(eleven), nil)
	w.tell(0, news(said("1 2", pref(101)), eleven)).changed(parsed(eleven), parsed(eleven), nil, parsed(eleven), nil)
	w.tell(0, gone(eleven)).changed(parsed(eleven), parsed(eleven), nil, parsed(eleven), nil)
	// What is said of Med and Pref does not go to other systems.
	w.tell(2, news(said("1 2", med(9), pref(120)), eleven)).changed(parsed(eleven), nil, nil, nil, nil)
	w.up(3).changed(nil, nil, nil, nil, parsed(ten, eleven))
	w.tell(2, news(said("1 2", med(8), pref(120)), eleven)).changed(parsed(eleven), nil, nil, nil, parsed(eleven))
	w.tell(2, news(said("1 2", med(8), pref(120), comms(noAdvertise)), eleven)).changed(parsed(eleven), parsed(eleven), parsed(eleven), nil, parsed(eleven))
	w.tell(2, news(said("1 2", med(8), pref(120), comms(noAdvertise, 1)), eleven)).changed(parsed(eleven), nil, nil, nil, nil)
	// Down: what it told is taken no more, and nothing goes out to it.
	w.down(1).changed(parsed(ten), parsed(ten), nil, parsed(ten), parsed(ten)).taken(entry(0, ten, said("1 2 3")), entry(2, eleven, said("1 2", med(8), pref(120), comms(noAdvertise, 1))))
	w.tell(0, news(said("7"), ten)).down(3).changed(nil, nil, nil, nil, parsed(ten))
	w.down(2).changed(parsed(eleven), nil, nil, parsed(ten), nil)
	w.down(0).changed(parsed(ten), nil, nil, nil, nil)
	w.up(0).changed(nil, nil, nil, nil, nil).down(0).changed(nil, nil, nil, nil, nil)
}

// Many prefixes are told as changed in order, each once, however they are told.
func TestChangesAreInOrder(t *testing.T) {
	l := []string{"255.0.0.0/8", "10.0.0.0/9", "0.0.0.0/0", ten, "10.0.0.0/9", "9.255.255.255/32", "128.0.0.0/1", "0.0.0.0/0"}
	want := parsed("0.0.0.0/0", "9.255.255.255/32", ten, "10.0.0.0/9", "128.0.0.0/1", "255.0.0.0/8")
	w := begin(t, some(2)...).up(0).up(1)
	w.tell(0, news(said("1"), l...)).changed(want, nil, want)
	w.down(1).changed(nil, nil, want).up(1).changed(nil, nil, want)
	w.tell(0, api.Update{Gone: parsed(l...), Attrs: said("2"), News: parsed(l...)}).changed(want, nil, want)
	w.down(0).changed(want, nil, want)
}
