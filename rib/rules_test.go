package rib_test

import (
	"slices"
	"testing"

	"speculum/api"
)

// P18.3

const eleven = "11.0.0.0/8"

func TestRulesWait(t *testing.T) {
	w := begin(t, some(2)...).up(0).up(1).tell(0, news(said("1"), ten, eleven))
	came := []api.Entry{entry(0, ten, said("1")), entry(0, eleven, said("1"))}
	w.rules(0, false, denyOf(ten), permit()).taken(came...).has(api.TIn, 0, came...)
	// New routes come in by the rules that count still.
	w.tell(0, news(said("2"), ten, "12.0.0.0/8")).changed(parsed(ten, "12.0.0.0/8"), nil, parsed(ten, "12.0.0.0/8"))
	w.taken(entry(0, ten, said("2")), entry(0, eleven, said("1")), entry(0, "12.0.0.0/8", said("2")))
	// Those that wait to say what goes out don't count by it, nor those of the other one.
	w.soft(0, true).changed(nil, nil, nil).soft(1, false).changed(nil, nil, nil).soft(1, true).changed(nil, nil, nil)
	w.soft(0, false).changed(parsed(ten), nil, parsed(ten)).taken(entry(0, eleven, said("1")), entry(0, "12.0.0.0/8", said("2")))
	w.has(api.TIn, 0, entry(0, ten, said("2")), entry(0, eleven, said("1")), entry(0, "12.0.0.0/8", said("2")))
	// Now they count, also for what is told behind it.
	w.tell(0, news(said("3"), ten, eleven)).changed(parsed(eleven), nil, parsed(eleven))
	w.soft(0, false).changed(nil, nil, nil).taken(entry(0, eleven, said("3")), entry(0, "12.0.0.0/8", said("2")))
}

func TestRulesOfOutWait(t *testing.T) {
	w := begin(t, some(3)...).up(0).up(1).up(2).tell(0, news(said("1"), ten, eleven))
	both := []api.Entry{entry(1, ten, told("1")), entry(1, eleven, told("1"))}
	w.rules(1, true, denyOf(ten), permit(setMed(5))).has(api.TOut, 1, both...)
	w.tell(0, news(said("1"), "12.0.0.0/8")).has(api.TOut, 1, append(both, entry(1, "12.0.0.0/8", told("1")))...)
	w.soft(1, false).changed(nil, nil, nil, nil).soft(2, true).changed(nil, nil, nil, nil)
	// The same is taken, and goes out otherwise, to that one alone.
	w.soft(1, true).changed(nil, nil, parsed(ten, eleven, "12.0.0.0/8"), nil)
	w.has(api.TOut, 1, entry(1, eleven, told("1", med(5))), entry(1, "12.0.0.0/8", told("1", med(5))))
	w.has(api.TOut, 2, entry(2, ten, told("1")), entry(2, eleven, told("1")), entry(2, "12.0.0.0/8", told("1")))
	w.tell(0, news(said("2"), ten, eleven)).changed(parsed(ten, eleven), nil, parsed(eleven), parsed(ten, eleven))
	w.soft(1, true).changed(nil, nil, nil, nil)
}

func TestBothWaysOfOnePeer(t *testing.T) {
	w := begin(t, some(2)...).up(0).up(1).tell(0, news(said("1"), ten)).tell(1, news(said("2"), eleven))
	w.rules(0, false, permit(setPref(7))).rules(0, true, permit(setMed(8)))
	w.soft(0, true).taken(entry(0, ten, said("1")), entry(1, eleven, said("2"))).has(api.TOut, 0, entry(0, eleven, told("2", med(8))))
	w.soft(0, false).taken(entry(0, ten, said("1", pref(7))), entry(1, eleven, said("2"))).has(api.TOut, 0, entry(0, eleven, told("2", med(8))))
	// What is taken is another one, but goes to other systems as it did.
	w.changed(parsed(ten), nil, nil)
}

func TestRulesToldAgain(t *testing.T) {
	for _, out := range []bool{false, true} {
		w := begin(t, outer(65002), inner(4)).up(0).up(1)
		k := 0
		if out {
			k = 1
		}
		med3, med4 := permit(setMed(3)), permit(setMed(4))
		is := func(n int) {
			t.Helper()
			w.has(api.TOut, 1, entry(1, ten, said("1", pref(100), med(n))))
		}
		w.tell(0, news(said("1"), ten))
		is(-1)
		// The last ones that were told count.
		w.rules(k, out, deny).rules(k, out, med3).soft(k, out)
		is(3)
		// What may not be is not told.
		w.rules(k, out, med4)
		for name, l := range wrongRules() {
			if r, e := w.r.Rules(k, out, l); e != api.EARG || r != nil && r != w.r {
				t.Error(name, e)
			}
		}
		is(3)
		w.soft(k, out)
		is(4)
		// Without some that wait, nothing is changed.
		w.soft(k, out).soft(k, out)
		is(4)
		// So many as may be.
		w.rules(k, out, append(slices.Repeat([]api.Rule{{Verdict: api.Go}}, 15), med3)...).soft(k, out)
		is(3)
		// To tell none is to tell some: all goes through then.
		w.rules(k, out).soft(k, out)
		is(-1)
		w.rules(k, out, deny).rules(k, out, []api.Rule{}...).soft(k, out)
		is(-1)
		w.rules(k, out, deny).soft(k, out).has(api.TOut, 1)
		w.rules(k, out).has(api.TOut, 1).soft(k, out)
		is(-1)
	}
}

// A peer is set up with rules; they are its own until others count, and these are until again others do.
func TestRulesStayWhoeverGoes(t *testing.T) {
	w := begin(t, outer(65002, ins(permit(setMed(3)))), inner(4)).up(0).up(1)
	again := func(n int) {
		t.Helper()
		w.down(0).up(0).tell(0, news(said("1"), ten)).taken(entry(0, ten, said("1", med(n))))
	}
	again(3)
	w.rules(0, false, permit(setMed(4)))
	// Those that wait do so when it comes again.
	again(3)
	w.soft(0, false).taken(entry(0, ten, said("1", med(4))))
	again(4)
	// They may count while nobody is up.
	w.down(0).rules(0, false, permit(setMed(5))).soft(0, false).changed(nil, nil, nil)
	w.up(0).tell(0, news(said("1"), ten)).taken(entry(0, ten, said("1", med(5))))
	w.rules(0, false, permit(setMed(6))).down(0).soft(0, false).up(0).tell(0, news(said("1"), ten)).taken(entry(0, ten, said("1", med(6))))
	// So it is of those of what goes out.
	w.down(1).rules(1, true, permit(setPref(9))).soft(1, true).changed(nil, nil, nil).has(api.TOut, 1)
	w.up(1).has(api.TOut, 1, entry(1, ten, said("1", med(6), pref(9))))
	w.rules(1, true, deny).down(1).up(1).has(api.TOut, 1, entry(1, ten, said("1", med(6), pref(9)))).soft(1, true).has(api.TOut, 1)
}

// Of routes that were barred, and of those that nobody took, another one may be taken by new rules.
func TestRulesCountAsFromTheBeginning(t *testing.T) {
	w := begin(t, outer(65002, ins(deny)), outer(65003), inner(3)).up(0).up(1).up(2)
	w.tell(0, news(said("1"), ten, eleven)).tell(1, news(said("2 3"), ten, "12.0.0.0/8")).taken(entry(1, ten, said("2 3")), entry(1, "12.0.0.0/8", said("2 3")))
	w.rules(0, false, permit()).soft(0, false).taken(entry(0, ten, said("1")), entry(0, eleven, said("1")), entry(1, "12.0.0.0/8", said("2 3")))
	w.changed(parsed(ten, eleven), parsed(ten), parsed(ten, eleven), parsed(ten, eleven))
	w.rules(1, false, permitOf(ten, setPref(101)), deny).soft(1, false).taken(entry(1, ten, said("2 3", pref(101))), entry(0, eleven, said("1")))
	w.changed(parsed(ten, "12.0.0.0/8"), parsed(ten, "12.0.0.0/8"), parsed(ten), parsed(ten, "12.0.0.0/8"))
	// Rules that change nothing of what is taken.
	w.rules(1, false, permitOf(ten, setPref(101)), permitOf(ten), denyOf("12.0.0.0/8"), deny).soft(1, false).changed(nil, nil, nil, nil)
	w.rules(0, false, permitOf(eleven), permit(setPref(99))).soft(0, false).changed(nil, nil, nil, nil)
	w.rules(2, false, deny).soft(2, false).changed(nil, nil, nil, nil)
	// And of what goes out, though something else is taken.
	w.rules(0, false, permitOf(eleven, setMed(1))).soft(0, false).changed(parsed(eleven), nil, nil, parsed(eleven))
	w.rules(2, true, permit(setMed(1))).soft(2, true).changed(nil, nil, nil, parsed(ten))
}
