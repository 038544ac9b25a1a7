package attrs_test

import (
	"bytes"
	"fmt"
	"math"
	"slices"
	"strings"
	"testing"

	"speculum/api"
	"speculum/attrs"
	"speculum/octet"
)

// hex is the bytes of digits, between which blanks may stand.
func hex(s string) []byte {
	b, ok := octet.Unhex(strings.ReplaceAll(s, " ", ""))
	if !ok {
		panic("no digits: " + s)
	}
	return b
}

// zeros is so many bytes of 0 in digits.
func zeros(n int) string { return strings.Repeat("00", n) }

// P4.2

func TestPut(t *testing.T) {
	const next = "400304 0a000001"
	for _, c := range []struct {
		name         string
		change       func(a *api.Attrs)
		wide, narrow string
	}{
		{"the example", func(a *api.Attrs) {}, "400101 00 400200" + next, "400101 00 400200" + next},
		{"origin, next", func(a *api.Attrs) { a.Origin, a.Next = 2, 0 }, "400101 02 400200 400304 00000000", "400101 02 400200 400304 00000000"},
		{"a path", func(a *api.Attrs) { a.Path = []api.Segment{seq(1, 65535), set(3)} },
			"400101 00 400210 0202 00000001 0000ffff 0101 00000003" + next,
			"400101 00 40020a 0202 0001 ffff 0101 0003" + next},
		{"a number above 65535", func(a *api.Attrs) { a.Path = []api.Segment{seq(1), set(65536, 3)} },
			"400101 00 400210 0201 00000001 0102 00010000 00000003" + next,
			"400101 00 40020a 0201 0001 0102 5ba0 0003" + next + "c01110 0201 00000001 0102 00010000 00000003"},
		{"the number of Trans itself", func(a *api.Attrs) { a.Path = []api.Segment{seq(api.Trans)} },
			"400101 00 400206 0201 00005ba0" + next,
			"400101 00 400204 0201 5ba0" + next},
		{"med, pref", func(a *api.Attrs) { a.Med, a.Pref = 5, 200 },
			"400101 00 400200" + next + "800404 00000005 400504 000000c8",
			"400101 00 400200" + next + "800404 00000005 400504 000000c8"},
		{"of 0, of most", func(a *api.Attrs) { a.Med, a.Pref = 0, math.MaxUint32 },
			"400101 00 400200" + next + "800404 00000000 400504 ffffffff",
			"400101 00 400200" + next + "800404 00000000 400504 ffffffff"},
		{"atomic", func(a *api.Attrs) { a.Atomic = true }, "400101 00 400200" + next + "400600", "400101 00 400200" + next + "400600"},
		{"an aggregator", func(a *api.Attrs) { a.HasAggr, a.AggrAS, a.AggrAddr = true, 65535, 0x01020304 },
			"400101 00 400200" + next + "c00708 0000ffff 01020304",
			"400101 00 400200" + next + "c00706 ffff 01020304"},
		{"an aggregator above 65535", func(a *api.Attrs) { a.HasAggr, a.AggrAS, a.AggrAddr = true, 65536, 0x01020304 },
			"400101 00 400200" + next + "c00708 00010000 01020304",
			"400101 00 400200" + next + "c00706 5ba0 01020304 c01208 00010000 01020304"},
		{"an aggregator of 0", func(a *api.Attrs) { a.HasAggr = true },
			"400101 00 400200" + next + "c00708 00000000 00000000",
			"400101 00 400200" + next + "c00706 0000 00000000"},
		{"communities", func(a *api.Attrs) { a.Comms = []uint32{0xffffff01, 7, 7} },
			"400101 00 400200" + next + "c0080c ffffff01 00000007 00000007",
			"400101 00 400200" + next + "c0080c ffffff01 00000007 00000007"},
		{"raws", func(a *api.Attrs) { a.Raws = []api.Raw{raw(0, 0), raw(9, 2), raw(255, 64)} },
			"400101 00 400200" + next + "e00000 e00902 0000 e0ff40" + zeros(64),
			"400101 00 400200" + next + "e00000 e00902 0000 e0ff40" + zeros(64)},
		{"all", func(a *api.Attrs) { *a = full() },
			"400101 02 400214 0202 0000fde9 00011170 0102 00000003 00000004 400304 0a000001 800404 00000005 400504 000000c8 400600 c00708 00011171 0a000002 c00808 fde90007 ffffff01 e00901 01 e0c802 0203",
			"400101 02 40020c 0202 fde9 5ba0 0102 0003 0004 400304 0a000001 800404 00000005 400504 000000c8 400600 c00706 5ba0 0a000002 c00808 fde90007 ffffff01 e00901 01 e0c802 0203" +
				"c01114 0202 0000fde9 00011170 0102 00000003 00000004 c01208 00011171 0a000002"},
	} {
		a := with(func(a *api.Attrs) { a.Next = 10<<24 | 1 })
		c.change(&a)
		if b, e := attrs.Put(a, true); e != api.OK || !bytes.Equal(b, hex(c.wide)) {
			t.Errorf("%s, wide: %x, %d", c.name, b, e)
		}
		if b, e := attrs.Put(a, false); e != api.OK || !bytes.Equal(b, hex(c.narrow)) {
			t.Errorf("%s, narrow: %x, %d", c.name, b, e)
		}
	}
}

// A value of more than 255 bytes has two bytes of length, and 16 among its flags.
func TestPutLongValues(t *testing.T) {
	of := func(segments, numbers int, as uint32) []api.Segment {
		out := slices.Repeat([]api.Segment{set(as)}, segments-1)
		return append(out, seq(slices.Repeat([]uint32{as}, numbers-segments+1)...))
	}
	for _, c := range []struct {
		path   []api.Segment
		wide   bool
		header string
		size   int
	}{
		{of(3, 62, 1), true, "4002fe", 254},
		{of(4, 62, 1), true, "50020100", 256},
		{of(1, 63, 1), true, "4002fe", 254},
		{of(2, 63, 1), true, "50020100", 256},
		{of(1, 64, 1), true, "50020102", 258},
		{of(8, 64, 1), true, "50020110", 272},
		{of(8, 64, 1), false, "400290", 144},
	} {
		b, e := attrs.Put(with(func(a *api.Attrs) { a.Path = c.path }), c.wide)
		if e != api.OK || !bytes.HasPrefix(b[4:], hex(c.header)) || len(b) != 4+len(c.header)/2+c.size+7 {
			t.Errorf("%d bytes: %x, %d", c.size, b[:20], e)
		}
	}
	// The wide path beside a narrow one likewise.
	b, e := attrs.Put(with(func(a *api.Attrs) { a.Path = of(2, 63, 70000) }), false)
	if e != api.OK || !bytes.Contains(b, hex("d0110100 0101 00011170")) {
		t.Errorf("%x, %d", b, e)
	}
	b, e = attrs.Put(with(func(a *api.Attrs) { a.Path = of(1, 63, 70000) }), false)
	if e != api.OK || !bytes.Contains(b, hex("c011fe 023f 00011170")) {
		t.Errorf("%x, %d", b, e)
	}
}

func TestPutRefuses(t *testing.T) {
	for name, change := range wrong() {
		for _, a := range []api.Attrs{attrs.Zero(), full()} {
			change(&a)
			for _, wide := range []bool{false, true} {
				if b, e := attrs.Put(a, wide); e != api.EARG || len(b) != 0 {
					t.Errorf("%s: %x, %d", name, b, e)
				}
			}
		}
	}
	for name, change := range right() {
		a := full()
		change(&a)
		if b, e := attrs.Put(a, true); e != api.OK || len(b) == 0 {
			t.Errorf("%s: %x, %d", name, b, e)
		}
	}
}

// Rule 4: neither what is handed in is changed, nor the room behind it; and no answer hangs together with it.
func TestPutChangesNothing(t *testing.T) {
	comms := []uint32{1, 2, 91, 92}
	data := []byte{1, 2, 93, 94}
	as := []uint32{70000, 2, 95, 96}
	a := attrs.Zero()
	a.Path = []api.Segment{{Kind: api.Seq, AS: as[:2]}}
	a.Comms = comms[:2]
	a.Raws = []api.Raw{{Flags: 224, Type: 99, Data: data[:2]}}
	for _, wide := range []bool{false, true} {
		b, _ := attrs.Put(a, wide)
		for i := range b {
			b[i] = 200
		}
		_ = append(b, 1, 2, 3)
	}
	if fmt.Sprint(comms, data, as) != "[1 2 91 92] [1 2 93 94] [70000 2 95 96]" {
		t.Error(comms, data, as)
	}
}
