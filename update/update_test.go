package update_test

import (
	"bytes"
	"fmt"
	"math"
	"slices"
	"strings"
	"testing"

	"speculum/api"
	"speculum/attrs"
	"speculum/octet"
	"speculum/prefix"
	"speculum/update"
)

// hex is the bytes of digits, between which blanks may stand.
func hex(s string) []byte {
	b, ok := octet.Unhex(strings.ReplaceAll(s, " ", ""))
	if !ok {
		panic("no digits: " + s)
	}
	return b
}

// list is the prefixes of texts.
func list(texts ...string) []api.Prefix {
	var out []api.Prefix
	for _, s := range texts {
		p, ok := prefix.Parse(s)
		if !ok {
			panic("no prefix: " + s)
		}
		out = append(out, p)
	}
	return out
}

// ones is so many prefixes of a byte each.
func ones(n int) []api.Prefix { return make([]api.Prefix, n) }

func seq(as ...uint32) api.Segment { return api.Segment{Kind: api.Seq, AS: as} }

// plain is attributes of 14 bytes.
func plain() api.Attrs {
	a := attrs.Zero()
	a.Next = 10<<24 | 1
	return a
}

// full has something of each kind.
func full() api.Attrs {
	return api.Attrs{
		Origin: 2, Path: []api.Segment{seq(65001, 70000), {Kind: api.Set, AS: []uint32{3, 4}}}, Next: 10<<24 | 1, Med: 5, Pref: 200, Atomic: true,
		HasAggr: true, AggrAS: 70001, AggrAddr: 10<<24 | 2, Comms: []uint32{65001<<16 | 7, 0xffffff01},
		Raws: []api.Raw{{Flags: 224, Type: 9, Data: []byte{1}}, {Flags: 224, Type: 200, Data: []byte{2, 3}}},
	}
}

// wrong is updates that may not be put, each for one reason.
func wrong() map[string]api.Update {
	bad := plain()
	bad.Origin = 3
	low := plain()
	low.Med = -2
	return map[string]api.Update{
		"a bit behind a Gone":      {Gone: []api.Prefix{{Addr: 1, Len: 31}}},
		"a Gone of 33":             {Gone: []api.Prefix{{Addr: 1, Len: 33}}},
		"a Gone of -1":             {Gone: []api.Prefix{{Len: -1}}},
		"the last Gone":            {Gone: append(list("10.0.0.0/8"), api.Prefix{Addr: 1 << 31})},
		"a bit behind one of News": {Attrs: plain(), News: []api.Prefix{{Addr: 1, Len: 31}}},
		"the last one of News":     {Attrs: plain(), News: append(list("10.0.0.0/8"), api.Prefix{Len: 256 + 8})},
		"News, with good Gone":     {Gone: list("10.0.0.0/8"), Attrs: plain(), News: []api.Prefix{{Len: 33}}},
		"attributes":               {Attrs: bad, News: list("10.0.0.0/8")},
		"attributes, with Gone":    {Gone: list("10.0.0.0/8"), Attrs: low, News: list("10.0.0.0/8")},
		// What is not right comes ahead of what is too long.
		"a Gone behind too many":        {Gone: append(ones(5000), api.Prefix{Addr: 1})},
		"one of News behind too many":   {Attrs: plain(), News: append(ones(5000), api.Prefix{Addr: 1})},
		"News behind too many Gone":     {Gone: ones(5000), Attrs: plain(), News: []api.Prefix{{Addr: 1}}},
		"attributes with too many News": {Attrs: bad, News: ones(5000)},
	}
}

// P5.1

func TestPut(t *testing.T) {
	const next = "400304 0a000001"
	for _, c := range []struct {
		name         string
		u            api.Update
		wide, narrow string
	}{
		{"the example", api.Update{Gone: list("10.0.0.0/8")}, "0002 080a 0000", "0002 080a 0000"},
		{"nothing", api.Update{}, "0000 0000", "0000 0000"},
		{"all lengths of prefixes", api.Update{Gone: list("0.0.0.0/0", "128.0.0.0/1", "10.0.0.0/8", "10.128.0.0/9", "10.1.0.0/16", "10.1.128.0/17", "10.1.2.0/24", "10.1.2.128/25", "1.2.3.4/32")},
			"001d 00 0180 080a 090a80 100a01 110a0180 180a0102 190a010280 2001020304 0000",
			"001d 00 0180 080a 090a80 100a01 110a0180 180a0102 190a010280 2001020304 0000"},
		{"News", api.Update{Attrs: plain(), News: list("10.0.0.0/8", "0.0.0.0/0")},
			"0000 000e 400101 00 400200" + next + "080a 00", "0000 000e 400101 00 400200" + next + "080a 00"},
		{"both", api.Update{Gone: list("10.1.0.0/16", "10.1.0.0/16"), Attrs: plain(), News: list("10.0.0.0/8")},
			"0006 100a01 100a01 000e 400101 00 400200" + next + "080a", "0006 100a01 100a01 000e 400101 00 400200" + next + "080a"},
		{"a wide path", api.Update{Attrs: with(func(a *api.Attrs) { a.Path = []api.Segment{seq(70000)} }), News: list("10.0.0.0/8")},
			"0000 0014 400101 00 400206 0201 00011170" + next + "080a",
			"0000 001b 400101 00 400204 0201 5ba0" + next + "c01106 0201 00011170 080a"},
		// Without News nothing of the attributes is put, right or not.
		{"attributes alone", api.Update{Attrs: full()}, "0000 0000", "0000 0000"},
		{"wrong attributes without News", api.Update{Gone: list("10.0.0.0/8"), Attrs: api.Attrs{Origin: 9, Med: -7}}, "0002 080a 0000", "0002 080a 0000"},
		{"empty lists", api.Update{Gone: []api.Prefix{}, News: []api.Prefix{}}, "0000 0000", "0000 0000"},
	} {
		if b, e := update.Put(c.u, true); e != api.OK || !bytes.Equal(b, hex(c.wide)) {
			t.Errorf("%s, wide: %x, %d", c.name, b, e)
		}
		if b, e := update.Put(c.u, false); e != api.OK || !bytes.Equal(b, hex(c.narrow)) {
			t.Errorf("%s, narrow: %x, %d", c.name, b, e)
		}
	}
}

// with is plain attributes, changed.
func with(change func(a *api.Attrs)) api.Attrs {
	a := plain()
	change(&a)
	return a
}

// A body has at most 4077 bytes.
func TestPutLong(t *testing.T) {
	for _, c := range []struct {
		name string
		u    api.Update
		fits bool
	}{
		{"Gone", api.Update{Gone: ones(4073)}, true},
		{"one more Gone", api.Update{Gone: ones(4074)}, false},
		{"News", api.Update{Attrs: plain(), News: ones(4059)}, true},
		{"one more of News", api.Update{Attrs: plain(), News: ones(4060)}, false},
		{"both", api.Update{Gone: ones(2000), Attrs: plain(), News: ones(2059)}, true},
		{"both, one more Gone", api.Update{Gone: ones(2001), Attrs: plain(), News: ones(2059)}, false},
		{"both, one more of News", api.Update{Gone: ones(2000), Attrs: plain(), News: ones(2060)}, false},
		// What finds no room is not left out because what stands behind it would find some.
		{"a long Gone ahead of short News", api.Update{Gone: append(ones(4054), list("1.2.3.4/32", "1.2.3.4/32")...), Attrs: plain(), News: ones(1)}, false},
		{"two bytes where there is room for one", api.Update{Gone: append(ones(4072), list("10.0.0.0/8")...)}, false},
		{"attributes alone count for nothing", api.Update{Gone: ones(4073), Attrs: full()}, true},
		{"News ten times as many", api.Update{Attrs: plain(), News: ones(40000)}, false},
		{"Gone past two bytes of length", api.Update{Gone: ones(1 << 16)}, false},
	} {
		b, e := update.Put(c.u, true)
		if c.fits && (e != api.OK || len(b) != 4077) || !c.fits && (e != api.ELONG || len(b) != 0) {
			t.Error(c.name, len(b), e)
		}
	}
}

func TestPutRefuses(t *testing.T) {
	for name, u := range wrong() {
		for _, wide := range []bool{false, true} {
			if b, e := update.Put(u, wide); e != api.EARG || len(b) != 0 {
				t.Errorf("%s: %x, %d", name, b, e)
			}
		}
	}
}

// Same holds all three fields against each other.
func TestSame(t *testing.T) {
	base := func() api.Update {
		return api.Update{Gone: list("10.0.0.0/8", "11.0.0.0/8"), Attrs: full(), News: list("12.0.0.0/8", "13.0.0.0/8")}
	}
	changes := []func(u *api.Update){
		func(u *api.Update) {},
		func(u *api.Update) { u.Gone = u.Gone[:1] },
		func(u *api.Update) { u.Gone = nil },
		func(u *api.Update) { slices.Reverse(u.Gone) },
		func(u *api.Update) { u.Gone[1].Addr++ },
		func(u *api.Update) { u.Gone[1].Len++ },
		func(u *api.Update) { u.Attrs = api.Attrs{} },
		func(u *api.Update) { u.Attrs = attrs.Zero() },
		func(u *api.Update) { u.Attrs.Pref = -1 },
		func(u *api.Update) { u.Attrs.Comms[1]++ },
		func(u *api.Update) { u.News = append(u.News, u.News[0]) },
		func(u *api.Update) { u.News = nil },
		func(u *api.Update) { slices.Reverse(u.News) },
		func(u *api.Update) { u.News[0].Addr = 0 },
		func(u *api.Update) { u.News[0].Len = 33 },
		func(u *api.Update) { u.Gone, u.News = u.News, u.Gone },
	}
	for i, one := range changes {
		for j, other := range changes {
			a, b := base(), base()
			one(&a)
			other(&b)
			if update.Same(a, b) != (i == j) {
				t.Error(i, j)
			}
		}
	}
	// Rule 3: nil and empty are one.
	empty := api.Update{Gone: []api.Prefix{}, Attrs: api.Attrs{Comms: []uint32{}}, News: []api.Prefix{}}
	if !update.Same(empty, api.Update{}) || !update.Same(api.Update{}, empty) {
		t.Error("nil and empty lists")
	}
	// Without News nothing is said of routes: that is api.Attrs{}, and nothing else is the same.
	if update.Same(api.Update{Attrs: attrs.Zero()}, api.Update{}) {
		t.Error("Zero and nothing")
	}
}

// Rule 4: what is handed in is not changed, nor the room behind it.
func TestPutChangesNothing(t *testing.T) {
	gone := list("10.0.0.0/8", "11.0.0.0/8", "1.1.1.1/32")
	news := list("12.0.0.0/8", "13.0.0.0/8", "2.2.2.2/32")
	u := api.Update{Gone: gone[:2], Attrs: full(), News: news[:2]}
	ahead := fmt.Sprint(gone, news, u)
	for _, wide := range []bool{false, true} {
		b, _ := update.Put(u, wide)
		for i := range b {
			b[i] = 200
		}
		_ = append(b, 1, 2, 3)
		again, _ := update.Put(u, wide)
		if bytes.Equal(again, b) || fmt.Sprint(gone, news, u) != ahead {
			t.Error(gone, news, u)
		}
	}
}

// odd is a source of numbers that are the same each time.
type odd uint64

func (x *odd) below(n int) int {
	*x ^= *x << 13
	*x ^= *x >> 7
	*x ^= *x << 17
	return int(uint64(*x) >> 11 % uint64(n))
}

func (x *odd) prefixes(most int) []api.Prefix {
	var out []api.Prefix
	for range x.below(most + 1) {
		out = append(out, prefix.Norm(uint32(x.below(1<<32)), x.below(33)))
	}
	return out
}

// update is one that may be put, with at most so many prefixes in each list; its News have a Pref and a next one that may be.
func (x *odd) update(most int) api.Update {
	u := api.Update{Gone: x.prefixes(most), News: x.prefixes(most)}
	if len(u.News) == 0 {
		return u
	}
	u.Attrs = plain()
	if x.below(2) == 0 {
		u.Attrs = full()
	}
	u.Attrs.Origin, u.Attrs.Pref = x.below(3), x.below(math.MaxUint32+1)
	u.Attrs.Next = uint32(1+x.below(126))<<24 | uint32(x.below(1<<24))
	for range x.below(20) {
		u.Attrs.Comms = append(u.Attrs.Comms, uint32(x.below(1<<32)))
	}
	return u
}

// P5.4

func TestWhatIsPutIsRead(t *testing.T) {
	x := odd(88172645463325252)
	for range 3000 {
		u := x.update(x.below(60))
		b, e := update.Put(u, true)
		got, f := update.Read(b, true, true, 0)
		if e != api.OK || f.Code != 0 || !update.Same(got, u) {
			t.Fatal(u, e, got, f)
		}
		outer := u
		if len(u.News) > 0 {
			outer.Attrs.Pref = -1
		}
		if got, f := update.Read(b, true, false, 0); f.Code != 0 || !update.Same(got, outer) {
			t.Fatal(u, got, f)
		}
		// Narrow, full's aggregator stands beside as its path does.
		b, e = update.Put(u, false)
		if got, f := update.Read(b, false, true, 0); e != api.OK || f.Code != 0 || !update.Same(got, u) {
			t.Fatal(u, e, got, f)
		}
	}
}
