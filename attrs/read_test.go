package attrs_test

import (
	"bytes"
	"fmt"
	"math"
	"slices"
	"strings"
	"testing"

	"speculum/api"
	"speculum/aspath"
	"speculum/attrs"
	"speculum/octet"
)

// nothing tells whether all but a fault is its zero value.
func nothing(a api.Attrs, kinds []int) bool {
	return attrs.Same(a, api.Attrs{}) && len(kinds) == 0
}

// P4.3

func TestRead(t *testing.T) {
	for _, c := range []struct {
		name   string
		b      string
		wide   bool
		change func(a *api.Attrs)
		kinds  []int
	}{
		{"nothing", "", true, func(a *api.Attrs) {}, nil},
		{"nothing, narrow", "", false, func(a *api.Attrs) {}, nil},
		{"origin", "400101 00", true, func(a *api.Attrs) {}, []int{1}},
		{"origin 2", "400101 02", false, func(a *api.Attrs) { a.Origin = 2 }, []int{1}},
		{"an empty path", "400200", true, func(a *api.Attrs) {}, []int{2}},
		{"a wide path", "40020a 0202 00000001 00011170", true, func(a *api.Attrs) { a.Path = []api.Segment{seq(1, 70000)} }, []int{2}},
		{"a narrow path", "40020a 0202 0001 ffff 0101 5ba0", false, func(a *api.Attrs) { a.Path = []api.Segment{seq(1, 65535), set(api.Trans)} }, []int{2}},
		{"next, least", "400304 01000000", true, func(a *api.Attrs) { a.Next = 1 << 24 }, []int{3}},
		{"next, greatest", "400304 dfffffff", true, func(a *api.Attrs) { a.Next = 0xdfffffff }, []int{3}},
		{"next about 127", "400304 7effffff", true, func(a *api.Attrs) { a.Next = 0x7effffff }, []int{3}},
		{"next behind 127", "400304 80000000", true, func(a *api.Attrs) { a.Next = 1 << 31 }, []int{3}},
		{"med 0", "800404 00000000", true, func(a *api.Attrs) { a.Med = 0 }, []int{4}},
		{"med, pref of most, behind one another", "400504 ffffffff 800404 ffffffff", true, func(a *api.Attrs) { a.Med, a.Pref = math.MaxUint32, math.MaxUint32 }, []int{5, 4}},
		{"pref 0", "400504 00000000", false, func(a *api.Attrs) { a.Pref = 0 }, []int{5}},
		{"atomic", "400600", true, func(a *api.Attrs) { a.Atomic = true }, []int{6}},
		{"a wide aggregator", "c00708 00011170 01020304", true, func(a *api.Attrs) { a.HasAggr, a.AggrAS, a.AggrAddr = true, 70000, 0x01020304 }, []int{7}},
		{"a narrow aggregator", "c00706 fffe 01020304", false, func(a *api.Attrs) { a.HasAggr, a.AggrAS, a.AggrAddr = true, 65534, 0x01020304 }, []int{7}},
		{"an aggregator of 0", "c00706 0000 00000000", false, func(a *api.Attrs) { a.HasAggr = true }, []int{7}},
		{"communities", "c0080c 00000007 ffffff01 00000007", true, func(a *api.Attrs) { a.Comms = []uint32{7, 0xffffff01, 7} }, []int{8}},
		{"no communities", "c00800", true, func(a *api.Attrs) {}, []int{8}},
		{"32 communities", "c00880" + zeros(128), true, func(a *api.Attrs) { a.Comms = make([]uint32, 32) }, []int{8}},
		// The length may have two bytes where one would do; flags below 16 say nothing.
		{"two bytes of length", "50010001 01", true, func(a *api.Attrs) { a.Origin = 1 }, []int{1}},
		{"flags below 16", "4f0101 01", true, func(a *api.Attrs) { a.Origin = 1 }, []int{1}},
		{"partial ones of both", "e00706 fffe 01020304 f0080004 00000007", false, func(a *api.Attrs) { a.HasAggr, a.AggrAS, a.AggrAddr, a.Comms = true, 65534, 0x01020304, []uint32{7} }, []int{7, 8}},
		// What is not known is left out, or kept in the order of kinds, with flags of its own.
		{"optional ones", "800901 05 a00a00 900b0001 07", true, func(a *api.Attrs) {}, []int{9, 10, 11}},
		{"an optional one of 65 bytes", "806441" + zeros(65), true, func(a *api.Attrs) {}, []int{100}},
		{"ones that are kept", "c0c801 05 e00900 d0640001 07 ff000000", true, func(a *api.Attrs) {
			a.Raws = []api.Raw{raw(0, 0), raw(9, 0), {Flags: 224, Type: 100, Data: []byte{7}}, {Flags: 224, Type: 200, Data: []byte{5}}}
		}, []int{200, 9, 100, 0}},
		{"one of 64 bytes", "c0ff40" + zeros(64), true, func(a *api.Attrs) { a.Raws = []api.Raw{raw(255, 64)} }, []int{255}},
		{"in any order", "400304 0a000001 c00900 400101 01", true, func(a *api.Attrs) { a.Origin, a.Next, a.Raws = 1, 10<<24|1, []api.Raw{raw(9, 0)} }, []int{3, 9, 1}},
	} {
		a, kinds, f := attrs.Read(hex(c.b), c.wide)
		if f.Code != 0 || f.Sub != 0 || len(f.Data) != 0 || !attrs.Same(a, with(c.change)) || !slices.Equal(kinds, c.kinds) {
			t.Error(c.name, a, kinds, f)
		}
	}
}

func TestReadEightRaws(t *testing.T) {
	var b string
	var kinds []int
	for i := range 8 {
		b += "c0" + octet.Hex([]byte{byte(220 - i)}) + "01aa"
		kinds = append(kinds, 220-i)
	}
	// One that is left out, or is told besides, is not one more.
	for _, more := range []string{"", "806400", "806441" + zeros(65), "c00804 00000007"} {
		a, _, f := attrs.Read(hex(b+more), true)
		if f.Code != 0 || len(a.Raws) != 8 || a.Raws[0].Type != 213 || a.Raws[7].Type != 220 || !attrs.Right(a) {
			t.Error(more, a, f)
		}
	}
	a, kinds2, f := attrs.Read(hex(b+"d0640001bb"), true)
	if !nothing(a, kinds2) || f.Code != 3 || f.Sub != 9 || !bytes.Equal(f.Data, hex("d0640001bb")) {
		t.Error("a ninth one", a, kinds2, f)
	}
	if _, got, _ := attrs.Read(hex(b), true); !slices.Equal(got, kinds) {
		t.Error(got)
	}
}

// A fault that is said of an attribute with it as Data is written here as what stands before it, it, and what stands behind.
func TestReadFaults(t *testing.T) {
	for _, c := range []struct {
		name               string
		sub                int
		ahead, it, further string
		wide               bool
		bare               bool
	}{
		// 3 1: it does not end.
		{name: "flags alone", sub: 1, it: "40", bare: true},
		{name: "no length", sub: 1, it: "4001", bare: true},
		{name: "no value", sub: 1, it: "400101", bare: true},
		{name: "too little of a value", sub: 1, it: "400304 0a0000", bare: true},
		{name: "half a length", sub: 1, it: "500100", bare: true},
		{name: "no value behind a length of two bytes", sub: 1, it: "50010001", bare: true},
		{name: "a length of two bytes, a value of 255", sub: 1, it: "50020100" + zeros(255), bare: true},
		{name: "the second does not end", sub: 1, ahead: "400101 00", it: "c0ff05 00000000", bare: true},
		{name: "one more byte", sub: 1, ahead: "400101 00", it: "00", bare: true},
		// 3 1: it was there already.
		{name: "origin twice", sub: 1, ahead: "400101 00 400304 0a000001", it: "400101 00", bare: true},
		{name: "one that is kept, twice", sub: 1, ahead: "c06400", it: "c06401 05", bare: true},
		{name: "one that is left out, twice", sub: 1, ahead: "806400", it: "806401 05", bare: true},
		{name: "left out first, then one to be kept", sub: 1, ahead: "806400", it: "c06401 05", bare: true},
		{name: "17 twice, wide", sub: 1, ahead: "c01100", it: "c01100", wide: true, bare: true},
		{name: "18 twice", sub: 1, ahead: "c01200", it: "c01200", bare: true},
		{name: "an empty path twice", sub: 1, ahead: "400200", it: "400200", bare: true},
		// 3 2
		{name: "not known, to be known", sub: 2, it: "400901 05", further: "400101 00"},
		{name: "not known, flags 0", sub: 2, ahead: "400101 00", it: "000000"},
		{name: "not known, all flags below 128", sub: 2, it: "7fff0001 05"},
		{name: "not known, to be known, of 65 bytes", sub: 2, it: "406441" + zeros(65)},
		// 3 4
		{name: "origin optional", sub: 4, it: "c00101 00"},
		{name: "origin without flags", sub: 4, it: "000101 00"},
		{name: "origin partial", sub: 4, it: "600101 00"},
		{name: "origin optional alone", sub: 4, it: "800101 00"},
		{name: "path optional", sub: 4, it: "c00200"},
		{name: "path partial", sub: 4, it: "700200 00"},
		{name: "next optional", sub: 4, it: "c00304 0a000001"},
		{name: "med transitive", sub: 4, it: "400404 00000001"},
		{name: "med both", sub: 4, it: "c00404 00000001"},
		{name: "med partial", sub: 4, it: "a00404 00000001"},
		{name: "pref optional", sub: 4, it: "800504 00000001"},
		{name: "pref partial", sub: 4, it: "600504 00000001"},
		{name: "atomic both", sub: 4, it: "c00600"},
		{name: "atomic partial", sub: 4, it: "600600"},
		{name: "aggregator transitive alone", sub: 4, it: "400706 0001 01020304"},
		{name: "aggregator optional alone", sub: 4, it: "800706 0001 01020304"},
		{name: "communities transitive alone", sub: 4, it: "400804 00000007"},
		{name: "communities optional, partial", sub: 4, it: "a00804 00000007"},
		{name: "17 transitive alone", sub: 4, it: "401100"},
		{name: "17 optional alone, wide", sub: 4, it: "801100", wide: true},
		{name: "18 without flags", sub: 4, it: "001208 00000001 00000002"},
		{name: "18 optional alone, wide", sub: 4, it: "80120101", wide: true},
		// 3 5
		{name: "origin of none", sub: 5, it: "400100"},
		{name: "origin of two", sub: 5, it: "400102 0000"},
		{name: "next of three", sub: 5, it: "400303 0a0000"},
		{name: "next of five", sub: 5, it: "400305 0a00000101"},
		{name: "med of three", sub: 5, it: "800403 000000"},
		{name: "med of none", sub: 5, it: "90040000"},
		{name: "pref of eight", sub: 5, it: "400508" + zeros(8)},
		{name: "atomic of one", sub: 5, it: "400601 00"},
		{name: "a narrow aggregator of eight", sub: 5, it: "c00708" + zeros(8)},
		{name: "a narrow aggregator of none", sub: 5, it: "c00700"},
		{name: "a wide aggregator of six", sub: 5, it: "c00706" + zeros(6), wide: true},
		{name: "communities of three", sub: 5, it: "c00803 000000"},
		{name: "communities of 255", sub: 5, it: "c008ff" + zeros(255)},
		{name: "communities of 129", sub: 5, it: "e00881" + zeros(129)},
		{name: "origin of 256", sub: 5, it: "50010100" + zeros(256)},
		// 3 6, 3 8
		{name: "origin 3", sub: 6, it: "400101 03", further: "400200"},
		{name: "origin 255", sub: 6, ahead: "400200", it: "50010001 ff"},
		{name: "next 0", sub: 8, it: "400304 00ffffff"},
		{name: "next 127", sub: 8, it: "400304 7f000001"},
		{name: "next 224", sub: 8, it: "400304 e0000000"},
		{name: "next of most", sub: 8, it: "400304 ffffffff"},
		// 3 11, without Data
		{name: "a path of another kind", sub: 11, it: "400204 0301 0001", bare: true},
		{name: "an empty segment", sub: 11, it: "400202 0200", bare: true},
		{name: "a short path", sub: 11, it: "400205 0202 000100", bare: true},
		{name: "a narrow path, wide", sub: 11, it: "400204 0201 0001", wide: true, bare: true},
		{name: "a wide path, narrow", sub: 11, it: "400206 0201 00000001", bare: true},
		{name: "65 numbers", sub: 11, it: "400284 0241" + zeros(130), bare: true},
		{name: "9 segments", sub: 11, it: "400224" + strings.Repeat("01010001", 9), bare: true},
		// 3 9
		{name: "33 communities", sub: 9, it: "c00884" + zeros(132)},
		{name: "64 communities", sub: 9, it: "d0080100" + zeros(256)},
		{name: "one to be kept of 65 bytes", sub: 9, it: "c06441" + zeros(65), further: "400101 00"},
		{name: "one to be kept of 255 bytes", sub: 9, it: "e064ff" + zeros(255)},
		{name: "one to be kept of 256 bytes", sub: 9, it: "f0640100" + zeros(256)},
		// Two faults: of one attribute the first in their order.
		{name: "not known, twice, to be known", sub: 1, ahead: "806400", it: "406400", bare: true},
		{name: "flags and size, but it does not end", sub: 1, it: "c00102 00", bare: true},
		{name: "twice, with wrong flags", sub: 1, ahead: "400101 00", it: "c00101 00", bare: true},
		{name: "flags and size", sub: 4, it: "c00102 0000"},
		{name: "flags and origin", sub: 4, it: "c00101 03"},
		{name: "flags and path", sub: 4, it: "c00202 0200"},
		{name: "flags and next", sub: 4, it: "600304 00000000"},
		{name: "flags and 33 communities", sub: 4, it: "800884" + zeros(132)},
		{name: "size and origin", sub: 5, it: "400102 0303"},
		{name: "size and next", sub: 5, it: "400303 000000"},
		{name: "size and more than 32 communities", sub: 5, it: "c00885" + zeros(133)},
		// Of two attributes the first one's.
		{name: "origin 3, then one that does not end", sub: 6, it: "400101 03", further: "4003"},
		{name: "size, then flags", sub: 5, it: "800401 00", further: "c00101 00"},
		{name: "9, then 2", sub: 9, it: "c06441" + zeros(65), further: "400900"},
		{name: "path, then twice", sub: 11, it: "400202 0200", further: "400202 0200", bare: true},
		{name: "twice, then not known", sub: 1, ahead: "400600", it: "400600", further: "000000", bare: true},
	} {
		b := hex(c.ahead + c.it + c.further)
		a, kinds, f := attrs.Read(b, c.wide)
		want := hex(c.it)
		if c.bare {
			want = nil
		}
		if !nothing(a, kinds) || f.Code != 3 || f.Sub != c.sub || !bytes.Equal(f.Data, want) {
			t.Error(c.name, a, kinds, f)
		}
		// It is no other attribute's fault.
		if _, _, f := attrs.Read(hex(c.ahead), c.wide); f.Code != 0 {
			t.Error(c.name, "ahead", f)
		}
	}
}

// What stands beside narrow numbers.
func TestReadBeside(t *testing.T) {
	const (
		path  = "400208 0203 0008 5ba0 0003 "
		trans = "c00706 5ba0 01020304 "
		other = "c00706 0009 01020304 "
		seven = "c0110a 0202 00011170 00000003 "
		eight = "c01208 00011171 05060708 "
	)
	narrow := []api.Segment{seq(8, api.Trans, 3)}
	merged := []api.Segment{seq(8), seq(70000, 3)}
	for _, c := range []struct {
		name     string
		b        string
		path     []api.Segment
		as, addr uint32 // of the aggregator; without one both are 0
	}{
		{"17", path + seven, merged, 0, 0},
		{"17 ahead", seven + path, merged, 0, 0},
		{"17, Trans", path + trans + seven, merged, api.Trans, 0x01020304},
		{"17, 18, Trans", path + trans + seven + eight, merged, 70001, 0x05060708},
		{"all the other way round", eight + seven + trans + path, merged, 70001, 0x05060708},
		{"17, another aggregator", path + other + seven, narrow, 9, 0x01020304},
		{"17, 18, another aggregator", path + other + seven + eight, narrow, 9, 0x01020304},
		{"another aggregator behind", seven + eight + path + other, narrow, 9, 0x01020304},
		{"18 alone", eight, nil, 0, 0},
		{"18 without an aggregator", path + seven + eight, merged, 0, 0},
		{"18, Trans", trans + eight, nil, 70001, 0x05060708},
		{"18 of a small number", trans + "c01208 00000005 00000006", nil, 5, 6},
		{"18 of seven bytes", trans + "c01207 00011171 050607", nil, api.Trans, 0x01020304},
		{"18 of nine bytes", trans + "c01209 00011171 0506070809", nil, api.Trans, 0x01020304},
		{"18 of none", trans + "c01200", nil, api.Trans, 0x01020304},
		{"17 alone", seven, nil, 0, 0},
		{"17 that is longer", "400204 0201 0008" + seven, []api.Segment{seq(8)}, 0, 0},
		{"17 with an empty segment", path + "c01102 0200", narrow, 0, 0},
		{"17 in narrow numbers", path + "c01108 0203 0008 5ba0 0003", narrow, 0, 0},
		{"17 of another kind", path + "c01106 0301 00011170", narrow, 0, 0},
		{"17 of nothing", path + "c01100", narrow, 0, 0},
		{"17 that is wrong, 18 that is right", path + trans + "c01102 0200" + eight, narrow, 70001, 0x05060708},
		{"partial ones", path + trans + "e0110a 0202 00011170 00000003 f0120008 00011171 05060708", merged, 70001, 0x05060708},
	} {
		want := with(func(a *api.Attrs) {
			a.Path, a.HasAggr, a.AggrAS, a.AggrAddr = c.path, c.as != 0, c.as, c.addr
		})
		a, kinds, f := attrs.Read(hex(c.b), false)
		if f.Code != 0 || !attrs.Same(a, want) || !slices.Equal(kinds, kindsOf(hex(c.b))) {
			t.Error(c.name, a, kinds, f)
		}
	}
}

// Wide, what stands beside says nothing, right or not; but that it was there is told.
func TestReadBesideWide(t *testing.T) {
	const (
		path = "40020e 0203 00000008 00005ba0 00000003 "
		aggr = "c00708 00005ba0 01020304 "
	)
	want := with(func(a *api.Attrs) {
		a.Path, a.HasAggr, a.AggrAS, a.AggrAddr = []api.Segment{seq(8, api.Trans, 3)}, true, api.Trans, 0x01020304
	})
	for _, beside := range []string{
		"c0110a 0202 00011170 00000003 c01208 00011171 05060708", "c01102 0200 c01201 00", "c01100 c01200", "e01101 00 f012000105",
	} {
		a, kinds, f := attrs.Read(hex(path+beside+aggr), true)
		if f.Code != 0 || !attrs.Same(a, want) || !slices.Equal(kinds, []int{2, 17, 18, 7}) {
			t.Error(beside, a, kinds, f)
		}
	}
}

// Rule 4: what is read is not changed, and no answer hangs together with it.
func TestReadChangesNothing(t *testing.T) {
	whole := hex("40020a 0202 0001 0002 0101 0003 c00808 00000007 00000008 c06402 0506 c06503 070809 806600 99999999")
	room := bytes.Clone(whole)
	given := whole[:len(whole)-4]
	a, _, f := attrs.Read(given, false)
	if f.Code != 0 {
		t.Fatal(f)
	}
	for _, s := range a.Path {
		s.AS[0] = 1000
		_ = append(s.AS, 1000)
	}
	a.Comms[0] = 1000
	_ = append(a.Comms, 1000)
	_ = append(a.Raws[0].Data, 100, 100)
	if !bytes.Equal(a.Raws[1].Data, []byte{7, 8, 9}) || a.Path[1].AS[0] != 1000 || a.Path[0].AS[1] != 2 {
		t.Error("lists of one answer hang together", a)
	}
	a.Raws[0].Data[0] = 100
	b := hex("400101 07 99")
	_, _, f = attrs.Read(b[:4], false)
	f.Data[0] = 100
	_ = append(f.Data, 100)
	if !bytes.Equal(whole, room) || !bytes.Equal(b, hex("400101 07 99")) {
		t.Errorf("%x, %x", whole, b)
	}
}

// P4.4

// odd is a source of numbers that are the same each time.
type odd uint64

func (x *odd) below(n int) int {
	*x ^= *x << 13
	*x ^= *x >> 7
	*x ^= *x << 17
	return int(uint64(*x) >> 11 % uint64(n))
}

// number is one of at most so many bits, often at an edge.
func (x *odd) number(bits int) uint32 {
	near := []uint32{0, 1, 65535, 65536, 65537, api.Trans, 70000, math.MaxUint32}
	n := near[x.below(len(near))]
	if x.below(2) == 0 {
		n = uint32(x.below(1<<32)) >> x.below(32)
	}
	return n & (1<<bits - 1)
}

// attrs is right ones, with a next one that may be; their systems' numbers have at most so many bits.
func (x *odd) attrs(bits int) api.Attrs {
	a := attrs.Zero()
	a.Origin = x.below(3)
	for range x.below(5) {
		s := api.Segment{Kind: 1 + x.below(2)}
		for range 1 + x.below(16) {
			s.AS = append(s.AS, x.number(bits))
		}
		a.Path = append(a.Path, s)
	}
	a.Next = 10<<24 | x.number(24)
	a.Med, a.Pref = int(x.number(32))-x.below(2), int(x.number(32))-x.below(2)
	a.Atomic = x.below(2) == 0
	if x.below(2) == 0 {
		a.HasAggr, a.AggrAS, a.AggrAddr = true, x.number(bits), x.number(32)
	}
	for range x.below(33) {
		a.Comms = append(a.Comms, x.number(32))
	}
	for kind := 19 + x.below(30); kind < 256 && len(a.Raws) < x.below(9); kind += 1 + x.below(40) {
		r := raw(kind, x.below(65))
		for i := range r.Data {
			r.Data[i] = byte(x.below(256))
		}
		a.Raws = append(a.Raws, r)
	}
	return a
}

// kindsOf is the kinds of bytes that Put told.
func kindsOf(b []byte) []int {
	var out []int
	r := octet.New(b)
	for r.Left() > 0 {
		flags := r.Byte()
		out = append(out, r.Byte())
		if flags&16 != 0 {
			r.Take(r.U16())
		} else {
			r.Take(r.Byte())
		}
	}
	return out
}

func TestWhatIsPutIsRead(t *testing.T) {
	x := odd(88172645463325252)
	restored := 0
	for i := range 6000 {
		a := x.attrs(16 + 16*(i%2))
		if !attrs.Right(a) {
			t.Fatal("not right", a)
		}
		wide, e := attrs.Put(a, true)
		got, kinds, f := attrs.Read(wide, true)
		if e != api.OK || f.Code != 0 || !attrs.Same(got, a) || !slices.Equal(kinds, kindsOf(wide)) {
			t.Fatal(a, got, kinds, e, f)
		}
		narrow, e := attrs.Put(a, false)
		got, kinds, f = attrs.Read(narrow, false)
		if e != api.OK || f.Code != 0 || aspath.Count(got.Path) != aspath.Count(a.Path) || !attrs.Right(got) || !slices.Equal(kinds, kindsOf(narrow)) {
			t.Fatal(a, got, kinds, e, f)
		}
		big := slices.ContainsFunc(aspath.Flat(a.Path), func(as uint32) bool { return as > 65535 })
		if whole := !a.HasAggr || !big && a.AggrAS <= 65535 && a.AggrAS != api.Trans; whole {
			if !attrs.Same(got, a) {
				t.Fatal(a, got)
			}
			if big {
				restored++
			}
		}
		// All but path and aggregator stands in it either way.
		got.Path, got.HasAggr, got.AggrAS, got.AggrAddr = a.Path, a.HasAggr, a.AggrAS, a.AggrAddr
		if !attrs.Same(got, a) {
			t.Fatal(a, got)
		}
	}
	if restored < 100 {
		t.Error("too few wide paths came through narrow numbers", restored)
	}
}

func TestEdgesAreReadAsPut(t *testing.T) {
	for name, change := range right() {
		a := full()
		a.HasAggr, a.AggrAS, a.AggrAddr = false, 0, 0
		if change(&a); !attrs.Next(a.Next) {
			continue // it is put, but not read
		}
		for _, wide := range []bool{false, true} {
			if a.HasAggr && !wide {
				continue
			}
			b, e := attrs.Put(a, wide)
			got, _, f := attrs.Read(b, wide)
			if e != api.OK || f.Code != 0 || !attrs.Same(got, a) {
				t.Error(name, got, e, f)
			}
		}
	}
	b, _ := attrs.Put(attrs.Zero(), true)
	if _, _, f := attrs.Read(b, true); f.Code != 3 || f.Sub != 8 || !bytes.Equal(f.Data, hex("400304 00000000")) {
		t.Error("Zero has no next one that may be", f)
	}
}

// Rules 2, 5, 6: at whatever bytes each call ends, tells right attributes or a fault, and the same again.
func TestWhateverComes(t *testing.T) {
	x := odd(2463534242)
	taken, faults := 0, map[int]int{}
	for range 40000 {
		a := x.attrs(32)
		b, _ := attrs.Put(a, x.below(2) == 0)
		for range x.below(4) {
			b[x.below(len(b))] = byte(x.below(256))
		}
		if x.below(4) == 0 {
			b = b[:x.below(len(b))]
		}
		wide := x.below(2) == 0
		got, kinds, f := attrs.Read(b, wide)
		switch {
		case f.Code == 0:
			taken++
			if f.Sub != 0 || len(f.Data) != 0 || !attrs.Right(got) || !slices.Equal(kinds, kindsOf(b)) {
				t.Fatalf("%x: %v, %v, %v", b, got, kinds, f)
			}
		case f.Code != 3 || !nothing(got, kinds) || !bytes.Contains(b, f.Data) || (len(f.Data) == 0) != (f.Sub == 1 || f.Sub == 11):
			t.Fatalf("%x: %v, %v, %v", b, got, kinds, f)
		default:
			faults[f.Sub]++
		}
		again, kinds2, f2 := attrs.Read(b, wide)
		if fmt.Sprint(got, kinds, f) != fmt.Sprint(again, kinds2, f2) {
			t.Fatalf("%x: %v, %v", b, got, again)
		}
	}
	if taken < 1000 || len(faults) != 8 {
		t.Error("too few of a kind came", taken, faults)
	}
}
