package update_test

import (
	"bytes"
	"fmt"
	"testing"

	"speculum/api"
	"speculum/attrs"
	"speculum/octet"
	"speculum/update"
)

// Attributes in digits.
const (
	origin  = "400101 02 "
	path    = "40020a 0202 0000fde9 00011170 "
	narrow  = "400206 0202 fde9 0008 "
	next    = "400304 0a000001 "
	pref    = "400504 000000c8 "
	setPath = "400206 0101 0000fde9 "
	noPath  = "400200 "
)

// message is a body of parts in digits.
func message(gone, said, news string) []byte {
	out := octet.Put16(nil, len(hex(gone)))
	out = append(out, hex(gone)...)
	out = append(octet.Put16(out, len(hex(said))), hex(said)...)
	return append(out, hex(news)...)
}

// P5.2

func TestRead(t *testing.T) {
	base := func(change func(a *api.Attrs)) api.Attrs {
		a := api.Attrs{Origin: 2, Path: []api.Segment{seq(65001, 70000)}, Next: 10<<24 | 1, Med: -1, Pref: -1}
		change(&a)
		return a
	}
	nothing := func(a *api.Attrs) {}
	ten := list("10.0.0.0/8")
	for _, c := range []struct {
		name             string
		gone, said, news string
		wide, inner      bool
		near             uint32
		want             api.Update
	}{
		{"nothing", "", "", "", true, false, 65001, api.Update{}},
		{"nothing, narrow, inner", "", "", "", false, true, 0, api.Update{}},
		{"the example", "080a", "", "", true, false, 65001, api.Update{Gone: ten}},
		// Bits behind a prefix's length are of no matter.
		{"bits behind", "080a 0bffff", "", "", true, true, 0, api.Update{Gone: list("10.0.0.0/8", "255.224.0.0/11")}},
		{"News", "", origin + path + next, "080a", true, false, 65001, api.Update{Attrs: base(nothing), News: ten}},
		{"both", "00 180a0102", origin + path + next, "080a 2001020304", true, false, 65001,
			api.Update{Gone: list("0.0.0.0/0", "10.1.2.0/24"), Attrs: base(nothing), News: list("10.0.0.0/8", "1.2.3.4/32")}},
		{"a prefix in both", "080a", origin + path + next, "080a 080a", true, false, 65001, api.Update{Gone: ten, Attrs: base(nothing), News: list("10.0.0.0/8", "10.0.0.0/8")}},
		{"narrow", "", origin + narrow + next, "080a", false, false, 65001, api.Update{Attrs: base(func(a *api.Attrs) { a.Path = []api.Segment{seq(65001, 8)} }), News: ten}},
		{"in any order", "", next + path + origin, "080a", true, false, 65001, api.Update{Attrs: base(nothing), News: ten}},
		// A Pref counts within a system alone.
		{"pref, inner", "", origin + path + next + pref, "080a", true, true, 0, api.Update{Attrs: base(func(a *api.Attrs) { a.Pref = 200 }), News: ten}},
		{"pref, not inner", "", origin + path + next + pref, "080a", true, false, 65001, api.Update{Attrs: base(nothing), News: ten}},
		{"pref 0, inner", "", origin + path + next + "400504 00000000", "080a", true, true, 0, api.Update{Attrs: base(func(a *api.Attrs) { a.Pref = 0 }), News: ten}},
		{"all else", "", origin + path + next + "800404 00000005 400600 c00804 00000007 c06401 05", "080a", true, false, 65001, api.Update{Attrs: base(func(a *api.Attrs) {
			a.Med, a.Atomic, a.Comms, a.Raws = 5, true, []uint32{7}, []api.Raw{{Flags: 224, Type: 100, Data: []byte{5}}}
		}), News: ten}},
		// Who is near is asked of outer ones alone, and not with 0.
		{"near 0", "", origin + path + next, "080a", true, false, 0, api.Update{Attrs: base(nothing), News: ten}},
		{"near, inner", "", origin + path + next + pref, "080a", true, true, 9, api.Update{Attrs: base(func(a *api.Attrs) { a.Pref = 200 }), News: ten}},
		{"near 0, no path", "", origin + noPath + next, "080a", true, false, 0, api.Update{Attrs: base(func(a *api.Attrs) { a.Path = nil }), News: ten}},
		{"near, inner, no path", "", origin + noPath + next + pref, "080a", true, true, 9, api.Update{Attrs: base(func(a *api.Attrs) { a.Path, a.Pref = nil, 200 }), News: ten}},
		{"near 0, a set ahead", "", origin + setPath + next, "080a", true, false, 0,
			api.Update{Attrs: base(func(a *api.Attrs) { a.Path = []api.Segment{{Kind: api.Set, AS: []uint32{65001}}} }), News: ten}},
		{"near of more than two bytes, beside", "", origin + "400206 0202 5ba0 0008" + next + "c0110a 0202 00011170 00000008", "080a", false, false, 70000,
			api.Update{Attrs: base(func(a *api.Attrs) { a.Path = []api.Segment{seq(70000, 8)} }), News: ten}},
		// Without News nothing is missing, nobody is near, and nothing is said.
		{"attributes without News", "080a", origin + path + next + pref, "", true, true, 9, api.Update{Gone: ten}},
		{"some without News", "", origin, "", true, false, 9, api.Update{}},
		{"another near without News", "080a", origin + path + next, "", true, false, 9, api.Update{Gone: ten}},
	} {
		u, f := update.Read(message(c.gone, c.said, c.news), c.wide, c.inner, c.near)
		if f.Code != 0 || f.Sub != 0 || len(f.Data) != 0 || !update.Same(u, c.want) {
			t.Error(c.name, u, f)
		}
	}
}

func TestReadParts(t *testing.T) {
	for _, s := range []string{
		"", "00", "0000", "0000 00", // two bytes for each length
		"0001", "0001 08", "0001 00", "0001 00 00", "0003 080a 0000", "0002 080a 00", "ffff 0000 0000",
		"0000 0001", "0000 0004 400101", "0000 0005 400101 00", "0002 080a 0001", "0000 ffff 400101 00",
	} {
		checkFault(t, s, hex(s), true, true, 0, 1, nil)
	}
	// It comes ahead of all that is wrong in the parts themselves.
	for _, s := range []string{"0001 21", "0001 21 00", "0001 21 0001", "0002 08ff 0004 000000", "0000 0003 40"} {
		checkFault(t, s, hex(s), true, true, 0, 1, nil)
	}
}

func checkFault(t *testing.T, name string, b []byte, wide, inner bool, near uint32, sub int, data []byte) {
	t.Helper()
	u, f := update.Read(b, wide, inner, near)
	if f.Code != 3 || f.Sub != sub || !bytes.Equal(f.Data, data) || !update.Same(u, api.Update{}) {
		t.Error(name, u, f)
	}
}

func TestReadFaults(t *testing.T) {
	for _, c := range []struct {
		name             string
		gone, said, news string
		inner            bool
		near             uint32
		sub              int
		data             string
	}{
		// 3 10: of Gone.
		{"a Gone of 33", "21 0a000000 00", "", "", true, 0, 10, ""},
		{"a Gone of 255", "ff", "", "", true, 0, 10, ""},
		{"a short Gone", "08", "", "", true, 0, 10, ""},
		{"the last Gone short", "080a 180a01", "", "", true, 0, 10, ""},
		{"Gone ahead of attributes", "21", "400101 03", "", true, 0, 10, ""},
		{"Gone ahead of News", "21", "", "080a", true, 0, 10, ""},
		// Those of attributes, News or not.
		{"origin 3", "", "400101 03", "", true, 0, 6, "400101 03"},
		{"origin 3, with Gone", "080a", "400101 03", "", false, 9, 6, "400101 03"},
		{"origin twice", "", origin + origin, "080a", true, 0, 1, ""},
		{"one that does not end", "", origin + "40", "080a", true, 0, 1, ""},
		{"not known", "", "406401 05", "", true, 0, 2, "406401 05"},
		{"flags", "", "c00101 00", "080a", true, 0, 4, "c00101 00"},
		{"size", "", origin + "400303 0a0000", "080a", true, 0, 5, "400303 0a0000"},
		{"next", "", "400304 7f000001", "080a", true, 0, 8, "400304 7f000001"},
		{"a path of another kind", "", "400206 0301 00000001", "080a", true, 0, 11, ""},
		{"attributes ahead of News", "", "400101 03", "21", true, 0, 6, "400101 03"},
		// 3 10: of News.
		{"News of 33", "", origin + path + next + pref, "21 0a000000 00", true, 0, 10, ""},
		{"short News", "", origin + path + next + pref, "08", true, 0, 10, ""},
		{"the last of News short", "", origin + path + next, "080a 20010203", false, 65001, 10, ""},
		{"News ahead of what is missing", "", "", "080a 21", true, 0, 10, ""},
		{"News ahead of near", "", origin + path + next, "080a 21", false, 9, 10, ""},
		// 3 3: the least one that is missing.
		{"no attributes", "", "", "080a", false, 0, 3, "01"},
		{"no attributes, inner", "", "", "080a", true, 0, 3, "01"},
		{"no origin", "", path + next + pref, "080a", true, 0, 3, "01"},
		{"no origin, near", "", path + next, "080a", false, 65001, 3, "01"},
		{"no path", "", origin + next + pref, "080a", true, 0, 3, "02"},
		{"no path, near", "", next + origin, "080a", false, 65001, 3, "02"},
		{"a wide path alone", "", origin + next + "c0110a 0202 0000fde9 00011170", "080a", false, 65001, 3, "02"},
		{"no next", "", origin + path + pref, "080a", true, 0, 3, "03"},
		{"no next, near", "", origin + path, "080a", false, 65001, 3, "03"},
		{"no path, no next", "", origin + pref, "080a", true, 0, 3, "02"},
		{"next alone", "", next, "080a", true, 0, 3, "01"},
		{"no pref, inner", "", origin + path + next, "080a", true, 0, 3, "05"},
		{"no next, no pref, inner", "", origin + path, "080a", true, 0, 3, "03"},
		{"no pref, inner, med", "", origin + path + next + "800404 00000005", "00", true, 65001, 3, "05"},
		{"what is missing ahead of near", "", origin + path, "080a", false, 9, 3, "03"},
		// 3 11: another one is near.
		{"another near", "", origin + path + next, "080a", false, 70000, 11, ""},
		{"a near below", "", origin + path + next, "080a", false, 65000, 11, ""},
		{"near, an empty path", "", origin + noPath + next, "080a", false, 65001, 11, ""},
		{"near, a set ahead", "", origin + setPath + next, "080a", false, 65001, 11, ""},
		{"near, a first one of 0", "", origin + "400206 0201 00000000" + next, "080a", false, 65001, 11, ""},
		{"near modulo 2^16", "", origin + "400206 0201 0001fde9" + next, "080a", false, 65001, 11, ""},
	} {
		checkFault(t, c.name, message(c.gone, c.said, c.news), true, c.inner, c.near, c.sub, hex(c.data))
	}
	// A path is read in the numbers that are asked for.
	checkFault(t, "a narrow path, wide", message("", origin+narrow+next, "080a"), true, false, 0, 11, nil)
	checkFault(t, "a wide path, narrow", message("", origin+setPath+next, "080a"), false, false, 0, 11, nil)
}

// What attrs.Read has against attributes is told as it is.
func TestReadTellsFaultsOfAttrs(t *testing.T) {
	x := odd(1181783497276652981)
	faults := 0
	for range 4000 {
		said := hex(origin + path + next + pref)
		for range 1 + x.below(3) {
			said[x.below(len(said))] = byte(x.below(256))
		}
		_, _, want := attrs.Read(said, true)
		b := append(octet.Put16([]byte{0, 0}, len(said)), said...)
		_, f := update.Read(b, true, true, 0)
		if f.Code != want.Code || f.Sub != want.Sub || !bytes.Equal(f.Data, want.Data) {
			t.Fatalf("%x: %v, %v", said, f, want)
		}
		if f.Code != 0 {
			faults++
		}
	}
	if faults < 1000 {
		t.Error("few faults", faults)
	}
}

// Rule 6: whatever bytes come, it ends; what is read may be put, and is read again as it was.
func TestReadAnything(t *testing.T) {
	x := odd(7046029254386353131)
	read := 0
	for range 20000 {
		b := message("080a 100b01", origin+path+next+pref, "080c 2001020304")
		for range x.below(4) {
			b[x.below(len(b))] = byte(x.below(256))
		}
		b = b[:len(b)-x.below(2)*x.below(len(b)+1)]
		u, f := update.Read(b, true, true, 0)
		if f.Code != 0 {
			if f.Code != 3 || !update.Same(u, api.Update{}) {
				t.Fatalf("%x: %v, %v", b, u, f)
			}
			continue
		}
		read++
		again, e := update.Put(u, true)
		if got, f := update.Read(again, true, true, 0); e != api.OK || f.Code != 0 || !update.Same(got, u) {
			t.Fatalf("%x: %v, %d, %v", b, u, e, f)
		}
	}
	if read < 1000 {
		t.Error("little was read", read)
	}
}

// Rule 4: what is read is not changed, and no answer hangs together with it.
func TestReadChangesNothing(t *testing.T) {
	whole := append(message("080a", origin+path+next+pref+"c00804 00000007 c06402 0506", "080c"), 99, 98)
	ahead := fmt.Sprint(whole)
	u, f := update.Read(whole[:len(whole)-2], true, true, 0)
	if f.Code != 0 {
		t.Fatal(f)
	}
	u.Gone[0], u.News[0] = api.Prefix{}, api.Prefix{}
	u.Attrs.Path[0].AS[0], u.Attrs.Comms[0], u.Attrs.Raws[0].Data[0] = 1000, 1000, 100
	_ = append(u.Attrs.Raws[0].Data, 100)
	bad := append(message("", "400101 03", ""), 99)
	_, f = update.Read(bad[:len(bad)-1], true, true, 0)
	f.Data[0] = 100
	_ = append(f.Data, 100)
	if fmt.Sprint(whole) != ahead || !bytes.Equal(bad, append(message("", "400101 03", ""), 99)) {
		t.Errorf("%x, %x", whole, bad)
	}
}
