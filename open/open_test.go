package open_test

import (
	"bytes"
	"fmt"
	"math"
	"slices"
	"strings"
	"testing"

	"speculum/api"
	"speculum/octet"
	"speculum/open"
)

// hex is the bytes of digits, between which blanks may stand.
func hex(s string) []byte {
	b, ok := octet.Unhex(strings.ReplaceAll(s, " ", ""))
	if !ok {
		panic("no digits: " + s)
	}
	return b
}

// zeros is so many bytes of 0 in digits.
func zeros(n int) string { return strings.Repeat("00", n) }

func same(a, b api.Open) bool {
	return a.Version == b.Version && a.AS == b.AS && a.Hold == b.Hold && a.Id == b.Id &&
		slices.EqualFunc(a.Caps, b.Caps, func(c, d api.Cap) bool { return c.Code == d.Code && bytes.Equal(c.Data, d.Data) })
}

// capOf is a capability of so many bytes of Data.
func capOf(code, n int) api.Cap { return api.Cap{Code: code, Data: make([]byte, n)} }

// plain is an OPEN without capabilities, with changes.
func plain(change func(o *api.Open)) api.Open {
	o := api.Open{Version: 4, AS: 65001, Hold: 90, Id: 0x0a000001}
	change(&o)
	return o
}

func nothing(o *api.Open) {}

const head = "04 fde9 005a 0a000001 "

// P6.1

func TestPut(t *testing.T) {
	for _, c := range []struct {
		name   string
		change func(o *api.Open)
		want   string
	}{
		{"none", nothing, head + "00"},
		{"an empty list", func(o *api.Open) { o.Caps = []api.Cap{} }, head + "00"},
		{"one", func(o *api.Open) { o.Caps = []api.Cap{{Code: 65, Data: []byte{0, 1, 17, 112}}} }, head + "08 02 06 4104 00011170"},
		{"one of nothing", func(o *api.Open) { o.Caps = []api.Cap{{Code: 2}} }, head + "04 02 02 0200"},
		{"some, in one parameter", func(o *api.Open) {
			o.Caps = []api.Cap{{Code: 65, Data: []byte{1, 2, 3, 4}}, {Code: 0, Data: []byte{}}, {Code: 255, Data: []byte{9}}, {Code: 65}}
		}, head + "0f 02 0d 410401020304 0000 ff0109 4100"},
		{"least", func(o *api.Open) { *o = api.Open{} }, zeros(10)},
		{"most", func(o *api.Open) { *o = api.Open{Version: 255, AS: 65535, Hold: 65535, Id: math.MaxUint32} }, "ff ffff ffff ffffffff 00"},
		{"251 bytes", func(o *api.Open) { o.Caps = []api.Cap{capOf(7, 251)} }, head + "ff 02 fd 07fb" + zeros(251)},
		{"253 of two", func(o *api.Open) { o.Caps = []api.Cap{capOf(7, 200), capOf(8, 49)} }, head + "ff 02 fd 07c8" + zeros(200) + "0831" + zeros(49)},
	} {
		if b, e := open.Put(plain(c.change)); e != api.OK || !bytes.Equal(b, hex(c.want)) {
			t.Errorf("%s: %x, %d", c.name, b, e)
		}
	}
}

func TestPutRefuses(t *testing.T) {
	for name, change := range map[string]func(o *api.Open){
		"version -1":                 func(o *api.Open) { o.Version = -1 },
		"version 256":                func(o *api.Open) { o.Version = 256 },
		"version least":              func(o *api.Open) { o.Version = math.MinInt },
		"AS -1":                      func(o *api.Open) { o.AS = -1 },
		"AS 65536":                   func(o *api.Open) { o.AS = 65536 },
		"hold -1":                    func(o *api.Open) { o.Hold = -1 },
		"hold 65536":                 func(o *api.Open) { o.Hold = 65536 },
		"hold most":                  func(o *api.Open) { o.Hold = math.MaxInt },
		"a code -1":                  func(o *api.Open) { o.Caps = []api.Cap{capOf(-1, 0)} },
		"a code 256":                 func(o *api.Open) { o.Caps = []api.Cap{capOf(256, 0)} },
		"the last code":              func(o *api.Open) { o.Caps = []api.Cap{capOf(1, 4), capOf(65+256, 4)} },
		"252 bytes":                  func(o *api.Open) { o.Caps = []api.Cap{capOf(7, 252)} },
		"254 bytes of two":           func(o *api.Open) { o.Caps = []api.Cap{capOf(7, 200), capOf(8, 50)} },
		"254 bytes of 127":           func(o *api.Open) { o.Caps = slices.Repeat([]api.Cap{{Code: 2}}, 127) },
		"256 bytes of Data":          func(o *api.Open) { o.Caps = []api.Cap{capOf(7, 256)} },
		"one behind 253 bytes":       func(o *api.Open) { o.Caps = []api.Cap{capOf(7, 251), capOf(8, 0)} },
		"a million":                  func(o *api.Open) { o.Caps = make([]api.Cap, 1000000) },
		"Data of 2^16 and six":       func(o *api.Open) { o.Caps = []api.Cap{capOf(65, 1<<16+6)} },
		"a code behind what may be":  func(o *api.Open) { o.Caps = []api.Cap{capOf(7, 251), capOf(300, 0)} },
		"a code, and too many bytes": func(o *api.Open) { o.Caps = []api.Cap{capOf(-9, 300)} },
	} {
		if b, e := open.Put(plain(change)); e != api.EARG || len(b) != 0 {
			t.Errorf("%s: %x, %d", name, b, e)
		}
	}
}

// P6.2

func TestRead(t *testing.T) {
	for _, c := range []struct {
		name   string
		b      string
		change func(o *api.Open)
	}{
		{"no parameters", head + "00", nothing},
		{"zeros", zeros(10), func(o *api.Open) { *o = api.Open{} }},
		{"most", "ff ffff ffff ffffffff 00", func(o *api.Open) { *o = api.Open{Version: 255, AS: 65535, Hold: 65535, Id: math.MaxUint32} }},
		{"a parameter of nothing", head + "02 0200", nothing},
		{"a capability", head + "08 0206 4104 00011170", func(o *api.Open) { o.Caps = []api.Cap{{Code: 65, Data: []byte{0, 1, 17, 112}}} }},
		{"some of nothing", head + "08 0206 0000 ff00 4100", func(o *api.Open) { o.Caps = []api.Cap{{Code: 0}, {Code: 255}, {Code: 65}} }},
		{"some parameters", head + "12 0203 410107 0200 0209 0200 020100 ff020102", func(o *api.Open) {
			o.Caps = []api.Cap{{Code: 65, Data: []byte{7}}, {Code: 2}, {Code: 2, Data: []byte{0}}, {Code: 255, Data: []byte{1, 2}}}
		}},
		{"251 bytes", head + "ff 02fd 07fb" + zeros(251), func(o *api.Open) { o.Caps = []api.Cap{capOf(7, 251)} }},
		{"some parameters, 255 bytes", head + "ff 02fb 07f9" + zeros(249) + "0200", func(o *api.Open) { o.Caps = []api.Cap{capOf(7, 249)} }},
	} {
		o, f := open.Read(hex(c.b))
		if f.Code != 0 || f.Sub != 0 || len(f.Data) != 0 || !same(o, plain(c.change)) {
			t.Error(c.name, o, f)
		}
	}
}

func TestReadFaults(t *testing.T) {
	for _, c := range []struct {
		name string
		b    string
		sub  int
	}{
		{"nothing", "", 0},
		{"a byte", "04", 0},
		{"nine bytes", head, 0},
		{"none of one", head + "01", 0},
		{"one of two", head + "02 02", 0},
		{"one more", head + "00 00", 0},
		{"one more behind a parameter", head + "02 0200 00", 0},
		{"a capability less", head + "08 0206 4104 000111", 0},
		{"a whole parameter more", head + "02 0200 0200", 0},
		{"254 of 255", head + "ff 02fc" + zeros(252), 0},
		// A parameter that does not end.
		{"a kind alone", head + "01 02", 0},
		{"a length past all", head + "02 0201", 0},
		{"the second", head + "05 0200 0202 00", 0},
		{"another kind that does not end", head + "01 03", 0},
		{"another kind past all", head + "03 0102 00", 0},
		// One of another kind.
		{"kind 1", head + "02 0100", 4},
		{"kind 0", head + "04 0002 0000", 4},
		{"kind 3", head + "04 0302 0200", 4},
		{"kind 255", head + "02 ff00", 4},
		{"another kind, no capabilities", head + "03 0101 41", 4},
		{"the second of another kind", head + "04 0200 0100", 4},
		// Capabilities that do not end within their parameter.
		{"a code alone", head + "03 0201 41", 0},
		{"a capability past it", head + "05 0203 4104 00", 0},
		{"a capability into the next one", head + "08 0202 4104 0202 4100", 0},
		{"the second capability", head + "06 0204 4100 4101", 0},
		// Of two the first one's.
		{"another kind, then one that does not end", head + "03 0100 02", 4},
		{"one that does not end, then another kind", head + "05 0201 41 0100", 0},
		{"capabilities, then another kind", head + "06 0202 4101 0100", 0},
		{"another kind, then capabilities", head + "05 0100 0201 41", 4},
		{"one more, with another kind", head + "02 0100 00", 0},
	} {
		o, f := open.Read(hex(c.b))
		if f.Code != 2 || f.Sub != c.sub || len(f.Data) != 0 || !same(o, api.Open{}) {
			t.Error(c.name, o, f)
		}
	}
	// Cut anywhere it is none.
	b, _ := open.Put(open.Mine(api.Local{AS: 70000, Id: 1, Hold: 90}))
	for n := range len(b) {
		if o, f := open.Read(b[:n]); f.Code != 2 || f.Sub != 0 || !same(o, api.Open{}) {
			t.Error(n, o, f)
		}
	}
}

// P6.3

func TestWideAndAS(t *testing.T) {
	wide := func(n ...byte) api.Cap { return api.Cap{Code: 65, Data: n} }
	for _, c := range []struct {
		name string
		caps []api.Cap
		as   uint32
		ok   bool
	}{
		{"none", nil, 0, false},
		{"another", []api.Cap{{Code: 64, Data: []byte{0, 0, 0, 7}}, {Code: 66, Data: []byte{0, 0, 0, 7}}}, 0, false},
		{"modulo 256", []api.Cap{{Code: 65 + 256, Data: []byte{0, 0, 0, 7}}}, 0, false},
		{"one", []api.Cap{wide(0, 1, 17, 112)}, 70000, true},
		{"most", []api.Cap{wide(255, 255, 255, 255)}, math.MaxUint32, true},
		{"of 0", []api.Cap{wide(0, 0, 0, 0)}, 0, true},
		{"of three", []api.Cap{wide(0, 1, 17)}, 0, false},
		{"of five", []api.Cap{wide(0, 1, 17, 112, 0)}, 0, false},
		{"of none", []api.Cap{wide()}, 0, false},
		{"the first", []api.Cap{wide(0, 0, 0, 8), wide(0, 0, 0, 9)}, 8, true},
		{"behind others", []api.Cap{{Code: 1, Data: []byte{0, 0, 0, 7}}, wide(0, 1), wide(), wide(0, 0, 0, 9), wide(0, 0, 0, 8)}, 9, true},
	} {
		o := plain(func(o *api.Open) { o.Caps = c.caps })
		if as, ok := open.Wide(o); as != c.as || ok != c.ok {
			t.Error(c.name, as, ok)
		}
		want := uint32(65001)
		if c.ok {
			want = c.as
		}
		if as := open.AS(o); as != want {
			t.Error(c.name, as)
		}
	}
	// Rule 8: what has more bits is taken modulo those that there are.
	for as, want := range map[int]uint32{0: 0, 70000: 70000, math.MaxUint32: math.MaxUint32, 1<<32 + 5: 5, -1: math.MaxUint32, math.MinInt: 0} {
		if got := open.AS(api.Open{AS: as}); got != want {
			t.Error(as, got)
		}
	}
}

func TestCheck(t *testing.T) {
	far := []api.Cap{{Code: 65, Data: []byte{0, 1, 17, 112}}}
	for _, c := range []struct {
		name   string
		change func(o *api.Open)
		as     uint32
		sub    int // -1: none
	}{
		{"none", nothing, 65001, -1},
		{"hold 0", func(o *api.Open) { o.Hold = 0 }, 65001, -1},
		{"hold 3", func(o *api.Open) { o.Hold = 3 }, 65001, -1},
		{"hold most", func(o *api.Open) { o.Hold = 65535 }, 65001, -1},
		{"hold -1", func(o *api.Open) { o.Hold = -1 }, 65001, -1},
		{"a wide number", func(o *api.Open) { o.AS, o.Caps = api.Trans, far }, 70000, -1},
		{"a wide number, whatever AS is", func(o *api.Open) { o.Caps = far }, 70000, -1},
		{"Id of most", func(o *api.Open) { o.Id = math.MaxUint32 }, 65001, -1},
		{"version 3", func(o *api.Open) { o.Version = 3 }, 65001, 1},
		{"version 5", func(o *api.Open) { o.Version = 5 }, 65001, 1},
		{"version 0", func(o *api.Open) { o.Version = 0 }, 65001, 1},
		{"version 4 + 256", func(o *api.Open) { o.Version = 260 }, 65001, 1},
		{"another AS", nothing, 65002, 2},
		{"AS, but a wide number", func(o *api.Open) { o.Caps = far }, 65001, 2},
		{"Trans for a wide number", func(o *api.Open) { o.AS, o.Caps = api.Trans, far }, api.Trans, 2},
		{"Trans without a wide number", func(o *api.Open) { o.AS = api.Trans }, 70000, 2},
		{"AS 0", func(o *api.Open) { o.AS = 0 }, 65001, 2},
		{"Id 0", func(o *api.Open) { o.Id = 0 }, 65001, 3},
		{"Id mine", func(o *api.Open) { o.Id = 9 }, 65001, 3},
		{"hold 1", func(o *api.Open) { o.Hold = 1 }, 65001, 6},
		{"hold 2", func(o *api.Open) { o.Hold = 2 }, 65001, 6},
		// Of two the first.
		{"version, AS", func(o *api.Open) { o.Version, o.AS = 5, 1 }, 65001, 1},
		{"version, Id, hold", func(o *api.Open) { o.Version, o.Id, o.Hold = 5, 0, 1 }, 65001, 1},
		{"AS, Id, hold", func(o *api.Open) { o.AS, o.Id, o.Hold = 1, 9, 2 }, 65001, 2},
		{"Id, hold", func(o *api.Open) { o.Id, o.Hold = 9, 2 }, 65001, 3},
	} {
		f := open.Check(plain(c.change), c.as, 9)
		want := api.Fault{Code: 2, Sub: c.sub}
		switch c.sub {
		case -1:
			want = api.Fault{}
		case 1:
			want.Data = []byte{0, 4}
		}
		if f.Code != want.Code || f.Sub != want.Sub || !bytes.Equal(f.Data, want.Data) {
			t.Error(c.name, f)
		}
	}
	// An Id of this side of 0 is refused as any other.
	if f := open.Check(plain(func(o *api.Open) { o.Id = 0 }), 65001, 0); f.Code != 2 || f.Sub != 3 {
		t.Error(f)
	}
	if f := open.Check(plain(nothing), 65001, 0); f.Code != 0 {
		t.Error(f)
	}
}

func TestMine(t *testing.T) {
	for _, c := range []struct {
		l        api.Local
		as, hold int
		data     string
	}{
		{api.Local{AS: 70000, Id: 7, Hold: 90}, 23456, 90, "00011170"},
		{api.Local{AS: 65536, Id: 7, Addr: 5, Hold: 3}, 23456, 3, "00010000"},
		{api.Local{AS: 65535, Id: math.MaxUint32, Hold: 65535}, 65535, 65535, "0000ffff"},
		{api.Local{AS: math.MaxUint32, Hold: 65536}, 23456, 65535, "ffffffff"},
		{api.Local{AS: 1, Hold: -1}, 1, 0, "00000001"},
		{api.Local{AS: 23456, Hold: math.MaxInt}, 23456, 65535, "00005ba0"},
		{api.Local{Hold: math.MinInt}, 0, 0, "00000000"},
	} {
		o := open.Mine(c.l)
		want := api.Open{Version: 4, AS: c.as, Hold: c.hold, Id: c.l.Id, Caps: []api.Cap{{Code: 65, Data: hex(c.data)}}}
		if !same(o, want) {
			t.Error(c.l, o)
		}
	}
}

func TestHold(t *testing.T) {
	for _, c := range [][3]int{
		{90, 180, 90}, {3, 3, 3}, {1, 2, 1}, {65535, 65534, 65534},
		{0, 90, 0}, {0, 0, 0}, {0, -5, 0}, {-5, 3, -5}, {math.MinInt, math.MaxInt, math.MinInt},
	} {
		if a, b := open.Hold(c[0], c[1]), open.Hold(c[1], c[0]); a != c[2] || b != c[2] {
			t.Error(c, a, b)
		}
	}
}

// P6.4

// odd is a source of numbers that are the same each time.
type odd uint64

func (x *odd) below(n int) int {
	*x ^= *x << 13
	*x ^= *x >> 7
	*x ^= *x << 17
	return int(uint64(*x) >> 11 % uint64(n))
}

func TestWhatIsPutIsRead(t *testing.T) {
	x := odd(88172645463325252)
	for range 5000 {
		o := api.Open{Version: x.below(256), AS: x.below(65536), Hold: x.below(65536), Id: uint32(x.below(1 << 32))}
		left := 253
		for range x.below(9) {
			c := api.Cap{Code: x.below(256)}
			if x.below(3) == 0 {
				c.Code = 65
			}
			for range x.below(40) {
				c.Data = append(c.Data, byte(x.below(256)))
			}
			if left -= 2 + len(c.Data); left < 0 {
				break
			}
			o.Caps = append(o.Caps, c)
		}
		b, e := open.Put(o)
		if got, f := open.Read(b); e != api.OK || f.Code != 0 || !same(got, o) {
			t.Fatal(o, e, got, f)
		}
	}
}

func TestMineIsTaken(t *testing.T) {
	for _, as := range []uint32{0, 1, 65535, 65536, 70000, math.MaxUint32} {
		for hold, sub := range map[int]int{-7: -1, 0: -1, 1: 6, 2: 6, 3: -1, 240: -1, 1 << 20: -1} {
			b, e := open.Put(open.Mine(api.Local{AS: as, Id: 7, Hold: hold}))
			o, f := open.Read(b)
			if e != api.OK || f.Code != 0 {
				t.Fatal(e, f)
			}
			f = open.Check(o, as, 8)
			if sub < 0 && f.Code != 0 || sub > 0 && (f.Code != 2 || f.Sub != sub) {
				t.Error(as, hold, f)
			}
			// To itself it is the same one.
			if f := open.Check(o, as, 7); f.Code != 2 || f.Sub != 3 {
				t.Error(as, hold, f)
			}
			if n, ok := open.Wide(o); n != as || !ok {
				t.Error(as, n, ok)
			}
		}
	}
}

// Rule 6: whatever bytes come, it ends; what is read may be put, if its capabilities find room in one parameter.
func TestReadAnything(t *testing.T) {
	x := odd(7046029254386353131)
	read := 0
	for range 20000 {
		b := hex(head + "0e 0206 4104 00011170 0204 0200 0100")
		for range x.below(3) {
			b[x.below(len(b))] = byte(x.below(256))
		}
		b = b[:len(b)-x.below(2)*x.below(len(b)+1)]
		o, f := open.Read(b)
		if f.Code != 0 {
			if f.Code != 2 || f.Sub != 0 && f.Sub != 4 || !same(o, api.Open{}) {
				t.Fatalf("%x: %v, %v", b, o, f)
			}
			continue
		}
		read++
		again, e := open.Put(o)
		if got, f := open.Read(again); e != api.OK || f.Code != 0 || !same(got, o) {
			t.Fatalf("%x: %v, %d, %v", b, o, e, f)
		}
	}
	if read < 1000 {
		t.Error("little was read", read)
	}
}

// Rule 4: nothing that is handed in is changed, nor the room behind it, and no answer hangs together with it.
func TestChangesNothing(t *testing.T) {
	data := []byte{1, 2, 3, 4, 91, 92}
	caps := []api.Cap{{Code: 65, Data: data[:4]}, {Code: 9, Data: []byte{7}}, {Code: 90}}
	o := plain(func(o *api.Open) { o.Caps = caps[:2] })
	ahead := fmt.Sprint(data, caps, o)
	b, _ := open.Put(o)
	open.Check(o, 1, 1)
	open.Wide(o)
	bytesAhead := slices.Clone(b)
	got, _ := open.Read(b)
	got.Caps[0].Data[0] = 100
	_ = append(got.Caps[0].Data, 100)
	if got.Caps[1].Data[0] != 7 || !bytes.Equal(b, bytesAhead) {
		t.Error(got, b)
	}
	for i := range b {
		b[i] = 200
	}
	if fmt.Sprint(data, caps, o) != ahead {
		t.Error(data, caps, o)
	}
}
