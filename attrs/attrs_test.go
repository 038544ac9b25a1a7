package attrs_test

import (
	"math"
	"slices"
	"testing"

	"speculum/api"
	"speculum/attrs"
)

func seq(as ...uint32) api.Segment { return api.Segment{Kind: api.Seq, AS: as} }

func set(as ...uint32) api.Segment { return api.Segment{Kind: api.Set, AS: as} }

func raw(kind, size int) api.Raw {
	return api.Raw{Flags: 224, Type: kind, Data: make([]byte, size)}
}

// raws is so many of them, of the kinds from 100 on.
func raws(n int) []api.Raw {
	var out []api.Raw
	for i := range n {
		out = append(out, raw(100+i, i))
	}
	return out
}

// with is what Zero tells, changed.
func with(change func(a *api.Attrs)) api.Attrs {
	a := attrs.Zero()
	change(&a)
	return a
}

// full has something of each kind.
func full() api.Attrs {
	return api.Attrs{
		Origin: 2, Path: []api.Segment{seq(65001, 70000), set(3, 4)}, Next: 10<<24 | 1, Med: 5, Pref: 200, Atomic: true,
		HasAggr: true, AggrAS: 70001, AggrAddr: 10<<24 | 2, Comms: []uint32{65001<<16 | 7, 0xffffff01},
		Raws: []api.Raw{{Flags: 224, Type: 9, Data: []byte{1}}, {Flags: 224, Type: 200, Data: []byte{2, 3}}},
	}
}

// wrong is changes that leave attributes not right, each for one reason.
func wrong() map[string]func(a *api.Attrs) {
	return map[string]func(a *api.Attrs){
		"origin 3":             func(a *api.Attrs) { a.Origin = 3 },
		"origin -1":            func(a *api.Attrs) { a.Origin = -1 },
		"origin 256":           func(a *api.Attrs) { a.Origin = 256 },
		"an empty segment":     func(a *api.Attrs) { a.Path = []api.Segment{seq()} },
		"65 numbers":           func(a *api.Attrs) { a.Path = []api.Segment{seq(make([]uint32, 65)...)} },
		"9 segments":           func(a *api.Attrs) { a.Path = slices.Repeat([]api.Segment{seq(1)}, 9) },
		"med -2":               func(a *api.Attrs) { a.Med = -2 },
		"med 2^32":             func(a *api.Attrs) { a.Med = 1 << 32 },
		"med most":             func(a *api.Attrs) { a.Med = math.MaxInt },
		"pref -2":              func(a *api.Attrs) { a.Pref = -2 },
		"pref 2^32":            func(a *api.Attrs) { a.Pref = 1 << 32 },
		"pref least":           func(a *api.Attrs) { a.Pref = math.MinInt },
		"aggregator's number":  func(a *api.Attrs) { a.HasAggr, a.AggrAS, a.AggrAddr = false, 1, 0 },
		"aggregator's address": func(a *api.Attrs) { a.HasAggr, a.AggrAS, a.AggrAddr = false, 0, 1 },
		"33 communities":       func(a *api.Attrs) { a.Comms = make([]uint32, 33) },
		"9 raws":               func(a *api.Attrs) { a.Raws = raws(9) },
		"raws that fall":       func(a *api.Attrs) { a.Raws = []api.Raw{raw(101, 1), raw(100, 1)} },
		"a raw twice":          func(a *api.Attrs) { a.Raws = []api.Raw{raw(100, 1), raw(100, 1)} },
		"a raw of -1":          func(a *api.Attrs) { a.Raws = []api.Raw{raw(-1, 1)} },
		"a raw of 256":         func(a *api.Attrs) { a.Raws = []api.Raw{raw(256, 1)} },
		"a raw of 8":           func(a *api.Attrs) { a.Raws = []api.Raw{raw(8, 4)} },
		"a raw of 17":          func(a *api.Attrs) { a.Raws = []api.Raw{raw(17, 1)} },
		"a raw of 18":          func(a *api.Attrs) { a.Raws = []api.Raw{raw(16, 1), raw(18, 8)} },
		"a raw's flags 192":    func(a *api.Attrs) { a.Raws = []api.Raw{{Flags: 192, Type: 100}} },
		"a raw's flags 240":    func(a *api.Attrs) { a.Raws = []api.Raw{{Flags: 240, Type: 100}} },
		"a raw's flags 480":    func(a *api.Attrs) { a.Raws = []api.Raw{{Flags: 256 + 224, Type: 100}} },
		"a raw of 65 bytes":    func(a *api.Attrs) { a.Raws = []api.Raw{raw(100, 65)} },
		"the second raw":       func(a *api.Attrs) { a.Raws = []api.Raw{raw(100, 64), raw(101, 65)} },
	}
}

// right is changes that leave attributes right, at the edges of what may be.
func right() map[string]func(a *api.Attrs) {
	return map[string]func(a *api.Attrs){
		"nothing":           func(a *api.Attrs) {},
		"origin 0":          func(a *api.Attrs) { a.Origin = 0 },
		"origin 2":          func(a *api.Attrs) { a.Origin = 2 },
		"64 numbers":        func(a *api.Attrs) { a.Path = []api.Segment{seq(make([]uint32, 64)...)} },
		"8 segments":        func(a *api.Attrs) { a.Path = slices.Repeat([]api.Segment{seq(1)}, 8) },
		"no path":           func(a *api.Attrs) { a.Path = []api.Segment{} },
		"next 0":            func(a *api.Attrs) { a.Next = 0 },
		"next all":          func(a *api.Attrs) { a.Next = math.MaxUint32 },
		"med -1":            func(a *api.Attrs) { a.Med = -1 },
		"med 0":             func(a *api.Attrs) { a.Med = 0 },
		"med 2^32-1":        func(a *api.Attrs) { a.Med = math.MaxUint32 },
		"pref -1":           func(a *api.Attrs) { a.Pref = -1 },
		"pref 0":            func(a *api.Attrs) { a.Pref = 0 },
		"pref 2^32-1":       func(a *api.Attrs) { a.Pref = math.MaxUint32 },
		"an aggregator 0":   func(a *api.Attrs) { a.HasAggr, a.AggrAS, a.AggrAddr = true, 0, 0 },
		"aggregator's most": func(a *api.Attrs) { a.HasAggr, a.AggrAS, a.AggrAddr = true, math.MaxUint32, math.MaxUint32 },
		"no aggregator":     func(a *api.Attrs) { a.HasAggr, a.AggrAS, a.AggrAddr = false, 0, 0 },
		"32 communities":    func(a *api.Attrs) { a.Comms = make([]uint32, 32) },
		"8 raws":            func(a *api.Attrs) { a.Raws = raws(8) },
		"raws of 0 and 255": func(a *api.Attrs) { a.Raws = []api.Raw{raw(0, 0), raw(9, 1), raw(16, 1), raw(19, 1), raw(255, 64)} },
	}
}

// P4.1

func TestKnown(t *testing.T) {
	for kind := -300; kind < 600; kind++ {
		want := kind >= 1 && kind <= 8 || kind == 17 || kind == 18
		if attrs.Known(kind) != want {
			t.Error(kind)
		}
	}
	if attrs.Known(math.MinInt) || attrs.Known(math.MaxInt) {
		t.Error("any number")
	}
}

func TestNext(t *testing.T) {
	for first := range uint32(256) {
		want := first != 0 && first != 127 && first < 224
		for _, rest := range []uint32{0, 1, 0xffffff} {
			if attrs.Next(first<<24|rest) != want {
				t.Error(first, rest)
			}
		}
	}
}

func TestZero(t *testing.T) {
	z := attrs.Zero()
	if z.Origin != 0 || len(z.Path) != 0 || z.Next != 0 || z.Med != -1 || z.Pref != -1 || z.Atomic || z.HasAggr || z.AggrAS != 0 || z.AggrAddr != 0 || len(z.Comms) != 0 || len(z.Raws) != 0 {
		t.Error(z)
	}
}

func TestRight(t *testing.T) {
	for _, start := range []api.Attrs{attrs.Zero(), full(), {}} {
		for name, change := range right() {
			a := start
			if change(&a); !attrs.Right(a) {
				t.Error(name)
			}
		}
		for name, change := range wrong() {
			a := start
			if change(&a); attrs.Right(a) {
				t.Error(name)
			}
		}
	}
}

// Each change alone makes attributes other ones.
func TestSame(t *testing.T) {
	changes := []func(a *api.Attrs){
		func(a *api.Attrs) {},
		func(a *api.Attrs) { a.Origin = 1 },
		func(a *api.Attrs) { a.Path = []api.Segment{seq(65001), seq(70000), set(3, 4)} },
		func(a *api.Attrs) { a.Path = nil },
		func(a *api.Attrs) { a.Next++ },
		func(a *api.Attrs) { a.Med = -1 },
		func(a *api.Attrs) { a.Med = 0 },
		func(a *api.Attrs) { a.Pref = -1 },
		func(a *api.Attrs) { a.Pref = 0 },
		func(a *api.Attrs) { a.Atomic = false },
		func(a *api.Attrs) { a.HasAggr = false },
		func(a *api.Attrs) { a.AggrAS++ },
		func(a *api.Attrs) { a.AggrAddr++ },
		func(a *api.Attrs) { a.Comms = []uint32{a.Comms[1], a.Comms[0]} },
		func(a *api.Attrs) { a.Comms = a.Comms[:1] },
		func(a *api.Attrs) { a.Raws = a.Raws[:1] },
		func(a *api.Attrs) { a.Raws = []api.Raw{a.Raws[1], a.Raws[0]} },
		func(a *api.Attrs) { a.Raws[1].Flags = 192 },
		func(a *api.Attrs) { a.Raws[1].Type = 201 },
		func(a *api.Attrs) { a.Raws[1].Data = []byte{2, 4} },
		func(a *api.Attrs) { a.Raws[1].Data = nil },
	}
	for i, one := range changes {
		for j, other := range changes {
			a, b := full(), full()
			one(&a)
			other(&b)
			if attrs.Same(a, b) != (i == j) {
				t.Error(i, j)
			}
		}
	}
	// Rule 3: nil and empty are one.
	a, b := attrs.Zero(), attrs.Zero()
	b.Path, b.Comms, b.Raws = []api.Segment{}, []uint32{}, []api.Raw{}
	if !attrs.Same(a, b) || !attrs.Same(b, a) {
		t.Error("nil and empty lists")
	}
	a.Raws, b.Raws = []api.Raw{{Type: 1}}, []api.Raw{{Type: 1, Data: []byte{}}}
	if !attrs.Same(a, b) || attrs.Same(a, attrs.Zero()) {
		t.Error("nil and empty Data")
	}
	if attrs.Same(api.Attrs{}, attrs.Zero()) {
		t.Error("Med of 0 and of -1")
	}
}
