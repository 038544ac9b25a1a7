package frame_test

import (
	"bytes"
	"math"
	"slices"
	"strings"
	"testing"

	"speculum/api"
	"speculum/frame"
	"speculum/octet"
)

// hex is the bytes of digits, between which blanks may stand.
func hex(s string) []byte {
	b, ok := octet.Unhex(strings.ReplaceAll(s, " ", ""))
	if !ok {
		panic("no digits: " + s)
	}
	return b
}

// head is the first 19 bytes of a message that says it has so many.
func head(size, kind int) []byte {
	b := octet.Put16(bytes.Repeat([]byte{255}, 16), size)
	return append(b, byte(kind))
}

// whole is a message of so many bytes.
func whole(size, kind int) []byte {
	return append(head(size, kind), bodyOf(size-19)...)
}

// bodyOf is so many bytes, few of which are the same as the one ahead.
func bodyOf(n int) []byte {
	b := make([]byte, n)
	for i := range b {
		b[i] = byte(7*i + i>>8)
	}
	return b
}

// others is numbers that are no kind of a message.
var others = []int{0, 5, 6, 255, 256, 257, 260, -1, -4, math.MaxInt, math.MinInt}

func same(a, b api.Fault) bool {
	return a.Code == b.Code && a.Sub == b.Sub && bytes.Equal(a.Data, b.Data)
}

// P7.1

func TestLeast(t *testing.T) {
	for kind, want := range map[int]int{1: 29, 2: 23, 3: 21, 4: 19} {
		if n := frame.Least(kind); n != want {
			t.Error(kind, n)
		}
	}
	for _, kind := range others {
		if n := frame.Least(kind); n != 0 {
			t.Error(kind, n)
		}
	}
}

func TestPut(t *testing.T) {
	const marks = "ffffffffffffffffffffffffffffffff"
	for _, c := range []struct {
		kind       int
		body, want string
	}{
		{4, "", marks + "0013 04"},
		{3, "0602", marks + "0015 03 0602"},
		{2, "00000000", marks + "0017 02 00000000"},
		{2, "0002080a0000", marks + "0019 02 0002080a0000"},
		{1, "04fde9005a0a00000100", marks + "001d 01 04fde9005a0a00000100"},
		// Whether a body may be so short, or is there at all, the reader asks.
		{1, "", marks + "0013 01"},
		{4, "ff", marks + "0014 04 ff"},
	} {
		if b, e := frame.Put(c.kind, hex(c.body)); e != api.OK || !bytes.Equal(b, hex(c.want)) {
			t.Errorf("%d, %s: %x, %d", c.kind, c.body, b, e)
		}
	}
	// Rule 3: nil and empty are one.
	if b, e := frame.Put(4, nil); e != api.OK || !bytes.Equal(b, head(19, 4)) {
		t.Errorf("%x, %d", b, e)
	}
}

func TestPutLong(t *testing.T) {
	for kind := 1; kind <= 4; kind++ {
		for _, n := range []int{236, 237, 4076, 4077} {
			if b, e := frame.Put(kind, bodyOf(n)); e != api.OK || !bytes.Equal(b, whole(19+n, kind)) {
				t.Error(kind, n, len(b), e)
			}
		}
		for _, n := range []int{4078, 4096, 65536 - 19, 65536} {
			if b, e := frame.Put(kind, bodyOf(n)); e != api.ELONG || len(b) != 0 {
				t.Error(kind, n, len(b), e)
			}
		}
	}
}

func TestPutRefuses(t *testing.T) {
	for _, kind := range others {
		// A kind that is none comes ahead of what is too long.
		for _, n := range []int{0, 10, 4077, 4078, 70000} {
			if b, e := frame.Put(kind, bodyOf(n)); e != api.EARG || len(b) != 0 {
				t.Error(kind, n, len(b), e)
			}
		}
	}
}

// P7.2

func TestNext(t *testing.T) {
	for _, c := range []struct{ size, kind int }{
		{19, 4}, {21, 3}, {22, 3}, {4096, 3}, {23, 2}, {24, 2}, {300, 2}, {4095, 2}, {4096, 2}, {29, 1}, {30, 1}, {4096, 1},
	} {
		b := whole(c.size, c.kind)
		// What stands behind is another one's, right or not.
		for _, more := range []string{"", "ff", "00", "00000000000000000000000000000000000000"} {
			kind, body, n, f := frame.Next(append(slices.Clone(b), hex(more)...))
			if kind != c.kind || !bytes.Equal(body, bodyOf(c.size-19)) || n != c.size || !same(f, api.Fault{}) {
				t.Errorf("%v, %q: %d, %d, %d, %v", c, more, kind, len(body), n, f)
			}
		}
		// Cut anywhere it is not there, nor is anything wrong.
		for i := range len(b) {
			if kind, body, n, f := frame.Next(b[:i]); kind != 0 || len(body) != 0 || n != 0 || !same(f, api.Fault{}) {
				t.Fatal(c, i, kind, len(body), n, f)
			}
		}
	}
}

func TestNextFaults(t *testing.T) {
	turned := func(b []byte, at int, c byte) []byte {
		b[at] = c
		return b
	}
	for _, c := range []struct {
		name string
		b    []byte
		sub  int
		data string
	}{
		{"the first byte", turned(head(19, 4), 0, 0), 1, ""},
		{"the 16th byte", turned(head(19, 4), 15, 254), 1, ""},
		{"zeros", make([]byte, 19), 1, ""},
		{"more zeros", make([]byte, 5000), 1, ""},
		{"length 0", head(0, 4), 2, "0000"},
		{"length 18", head(18, 2), 2, "0012"},
		{"length 4097", head(4097, 2), 2, "1001"},
		{"length of most", head(65535, 2), 2, "ffff"},
		{"kind 0", head(19, 0), 3, "00"},
		{"kind 5", head(4096, 5), 3, "05"},
		{"kind 255", head(19, 255), 3, "ff"},
		{"an OPEN of 28", whole(28, 1), 2, "001c"},
		{"an OPEN of 19", head(19, 1), 2, "0013"},
		{"an UPDATE of 22", whole(22, 2), 2, "0016"},
		{"a NOTIFICATION of 20", whole(20, 3), 2, "0014"},
		{"a KEEPALIVE of 20", whole(20, 4), 2, "0014"},
		{"a KEEPALIVE of 4096", whole(4096, 4), 2, "1000"},
		// They are told as soon as the first 19 bytes are there.
		{"a NOTIFICATION of 20, of which 19 are there", head(20, 3), 2, "0014"},
		{"a KEEPALIVE of 4096, of which 19 are there", head(4096, 4), 2, "1000"},
		// Of two the first one.
		{"a byte and length", turned(head(18, 4), 7, 1), 1, ""},
		{"a byte and kind", turned(head(19, 0), 7, 1), 1, ""},
		{"length below and kind", head(18, 5), 2, "0012"},
		{"length above and kind", head(4097, 0), 2, "1001"},
		{"kind and what would be too short", head(20, 9), 3, "09"},
	} {
		for _, more := range []int{0, 1, 100} {
			kind, body, n, f := frame.Next(append(slices.Clone(c.b), bodyOf(more)...))
			if want := (api.Fault{Code: 1, Sub: c.sub, Data: hex(c.data)}); kind != 0 || len(body) != 0 || n != 0 || !same(f, want) {
				t.Error(c.name, more, kind, len(body), n, f)
			}
		}
		// Of fewer bytes nothing is told.
		if kind, body, n, f := frame.Next(c.b[:18]); kind != 0 || len(body) != 0 || n != 0 || !same(f, api.Fault{}) {
			t.Error(c.name, kind, len(body), n, f)
		}
	}
	for at := range 16 {
		for c := range 255 {
			if _, _, _, f := frame.Next(turned(head(19, 4), at, byte(c))); !same(f, api.Fault{Code: 1, Sub: 1}) {
				t.Fatal(at, c, f)
			}
		}
	}
}

// Each length and kind there is.
func TestNextAllHeads(t *testing.T) {
	room := make([]byte, 4096)
	for kind := range 7 {
		low, high := 0, -1
		switch kind {
		case 1:
			low, high = 29, 4096
		case 2:
			low, high = 23, 4096
		case 3:
			low, high = 21, 4096
		case 4:
			low, high = 19, 19
		}
		for size := range 1 << 16 {
			want := api.Fault{Code: 1, Sub: 2, Data: []byte{byte(size >> 8), byte(size)}}
			if high < 0 && size >= 19 && size <= 4096 {
				want = api.Fault{Code: 1, Sub: 3, Data: []byte{byte(kind)}}
			}
			fits := size >= low && size <= high
			if fits {
				want = api.Fault{}
			}
			copy(room, head(size, kind))
			k, body, n, f := frame.Next(room)
			if !same(f, want) || fits && (k != kind || n != size || len(body) != size-19) || !fits && (k != 0 || n != 0 || len(body) != 0) {
				t.Fatal(kind, size, k, len(body), n, f)
			}
		}
	}
}

// Rule 4: what is handed in is not changed, nor the room behind it, and no answer hangs together with it.
func TestChangesNothing(t *testing.T) {
	b := append(whole(30, 2), whole(23, 2)...)
	ahead := slices.Clone(b)
	_, body, _, _ := frame.Next(b[:30])
	body[0] = 99
	_ = append(body, 99)
	wrong := head(18, 2)
	_, _, _, f := frame.Next(wrong)
	f.Data[0] = 99
	said := bodyOf(20)
	m, _ := frame.Put(2, said[:10])
	for i := range m {
		m[i] = 99
	}
	s := frame.New()
	s.Feed(b[:20])
	s.Feed([]byte{1, 2, 3})
	if !bytes.Equal(b, ahead) || !bytes.Equal(wrong, head(18, 2)) || !bytes.Equal(said, bodyOf(20)) {
		t.Error(b, wrong, said)
	}
}
