package octet_test

import (
	"bytes"
	"fmt"
	"math"
	"strings"
	"testing"

	"speculum/api"
	"speculum/octet"
)

// P1.1

func TestPutNumbers(t *testing.T) {
	for _, c := range []struct {
		n    int
		want string
	}{
		{0, "\x00\x00"}, {258, "\x01\x02"}, {255, "\x00\xff"}, {65535, "\xff\xff"},
		{65536, "\x00\x00"}, {65536 + 258, "\x01\x02"}, {-1, "\xff\xff"}, {-65536, "\x00\x00"}, {-2, "\xff\xfe"},
		{math.MaxInt, "\xff\xff"}, {math.MinInt, "\x00\x00"}, {math.MinInt + 1, "\x00\x01"},
	} {
		if b := octet.Put16(nil, c.n); string(b) != c.want {
			t.Errorf("Put16 of %d: %x", c.n, b)
		}
		if b := octet.Put16([]byte{7, 8}, c.n); string(b) != "\x07\x08"+c.want {
			t.Errorf("Put16 of %d behind two: %x", c.n, b)
		}
	}
	for _, c := range []struct {
		n    uint32
		want string
	}{
		{0, "\x00\x00\x00\x00"}, {1, "\x00\x00\x00\x01"}, {0x01020304, "\x01\x02\x03\x04"}, {math.MaxUint32, "\xff\xff\xff\xff"},
	} {
		if b := octet.Put32(nil, c.n); string(b) != c.want {
			t.Errorf("Put32 of %d: %x", c.n, b)
		}
		if b := octet.Put32([]byte{7}, c.n); string(b) != "\x07"+c.want {
			t.Errorf("Put32 of %d behind one: %x", c.n, b)
		}
	}
}

// Rule 4: neither the list nor the room behind its end is changed.
func TestPutLeavesRoom(t *testing.T) {
	whole := []byte{1, 2, 3, 4, 5, 6, 7, 8}
	first := octet.Put16(whole[:2], 0xaabb)
	second := octet.Put32(whole[:2], 0xccddeeff)
	if !bytes.Equal(whole, []byte{1, 2, 3, 4, 5, 6, 7, 8}) {
		t.Error("the list behind was changed", whole)
	}
	if !bytes.Equal(first, []byte{1, 2, 0xaa, 0xbb}) || !bytes.Equal(second, []byte{1, 2, 0xcc, 0xdd, 0xee, 0xff}) {
		t.Error(first, second)
	}
	left := octet.Put16(first, 1)
	right := octet.Put16(first, 2)
	if left[5] != 1 || right[5] != 2 {
		t.Error("two lists made of one meddle with each other", left, right)
	}
}

// P1.2

func TestReaderNumbers(t *testing.T) {
	r := octet.New([]byte{1, 0xff, 0xfe, 0xff, 0xfe, 0xfd, 0xfc, 9, 8})
	if r.Left() != 9 || r.Err() != api.OK {
		t.Error("at first", r.Left(), r.Err())
	}
	if n := r.Byte(); n != 1 || r.Left() != 8 {
		t.Error("Byte", n, r.Left())
	}
	if n := r.U16(); n != 0xfffe || r.Left() != 6 {
		t.Error("U16", n, r.Left())
	}
	if n := r.U32(); n != 0xfffefdfc || r.Left() != 2 {
		t.Error("U32", n, r.Left())
	}
	if b := r.Take(0); len(b) != 0 || r.Left() != 2 || r.Err() != api.OK {
		t.Error("Take of 0", b, r.Left(), r.Err())
	}
	if b := r.Take(2); string(b) != "\x09\x08" || r.Left() != 0 || r.Err() != api.OK {
		t.Error("Take of all", b, r.Left(), r.Err())
	}
	if b := r.Take(0); len(b) != 0 || r.Err() != api.OK {
		t.Error("Take of 0 at the end", b, r.Err())
	}
}

// Each way in which a reader becomes short.
func TestReaderShort(t *testing.T) {
	ways := map[string]struct {
		bytes int
		call  func(r *octet.Reader) bool
	}{
		"Byte":            {0, func(r *octet.Reader) bool { return r.Byte() == 0 }},
		"U16":             {1, func(r *octet.Reader) bool { return r.U16() == 0 }},
		"U32":             {3, func(r *octet.Reader) bool { return r.U32() == 0 }},
		"Take":            {4, func(r *octet.Reader) bool { return len(r.Take(5)) == 0 }},
		"Take below 0":    {4, func(r *octet.Reader) bool { return len(r.Take(-1)) == 0 }},
		"Take of most":    {4, func(r *octet.Reader) bool { return len(r.Take(math.MaxInt)) == 0 }},
		"Take of least":   {4, func(r *octet.Reader) bool { return len(r.Take(math.MinInt)) == 0 }},
		"Take of nothing": {0, func(r *octet.Reader) bool { return len(r.Take(1)) == 0 }},
	}
	for name, way := range ways {
		r := octet.New(bytes.Repeat([]byte{5}, way.bytes))
		if !way.call(r) {
			t.Error(name, "tells something")
		}
		if !staysShort(r) {
			t.Error(name, "does not stay short")
		}
	}
}

// staysShort asks for less than there was, which a short reader refuses, too.
func staysShort(r *octet.Reader) bool {
	if r.Err() != api.ESHORT || r.Left() != 0 {
		return false
	}
	if len(r.Take(1)) != 0 || r.Byte() != 0 || r.U16() != 0 || r.U32() != 0 || len(r.Take(0)) != 0 {
		return false
	}
	return r.Err() == api.ESHORT && r.Left() == 0
}

func TestReaderShortBehindSome(t *testing.T) {
	r := octet.New([]byte{1, 2, 3})
	if r.U16() != 258 || r.U16() != 0 || !staysShort(r) {
		t.Error("one byte was left, two were asked for")
	}
}

func TestReaderNone(t *testing.T) {
	var none *octet.Reader
	if none.Byte() != 0 || none.U16() != 0 || none.U32() != 0 || len(none.Take(1)) != 0 || len(none.Take(0)) != 0 || none.Left() != 0 {
		t.Error("a nil reader tells something")
	}
	if none.Err() != api.ENIL {
		t.Error(none.Err())
	}
	for _, r := range []*octet.Reader{octet.New(nil), octet.New([]byte{}), new(octet.Reader)} {
		if r.Left() != 0 || r.Err() != api.OK || len(r.Take(0)) != 0 || r.Err() != api.OK {
			t.Error("of no bytes", r.Left(), r.Err())
		}
		if r.Byte() != 0 || !staysShort(r) {
			t.Error("of no bytes it is not short")
		}
	}
}

// Rule 4: what is read is not changed, and what was taken can be put on.
func TestReaderChangesNothing(t *testing.T) {
	b := []byte{1, 2, 3, 4}
	r := octet.New(b)
	got := append(r.Take(2), 9, 9)
	if string(got) != "\x01\x02\x09\x09" || string(b) != "\x01\x02\x03\x04" || r.U16() != 0x0304 {
		t.Error("what is behind was changed", got, b)
	}
	one, other := octet.New(b), octet.New(b)
	if one.U32() != 0x01020304 || other.Left() != 4 || other.Byte() != 1 {
		t.Error("two readers of the same bytes hang together")
	}
}

// P1.3

func TestHex(t *testing.T) {
	if octet.Hex(nil) != "" || octet.Hex([]byte{}) != "" || octet.Hex([]byte{0x00, 0xff, 0x10, 0x09, 0xa0, 0xbc}) != "00ff1009a0bc" {
		t.Error(octet.Hex([]byte{0x00, 0xff, 0x10, 0x09, 0xa0, 0xbc}))
	}
	for n := range 256 {
		if h := octet.Hex([]byte{byte(n)}); h != fmt.Sprintf("%02x", n) {
			t.Error(n, h)
		}
	}
}

func TestUnhexTakesWhatHexTells(t *testing.T) {
	if b, ok := octet.Unhex(""); !ok || len(b) != 0 {
		t.Error("of nothing", b, ok)
	}
	if b, ok := octet.Unhex("00ff10"); !ok || string(b) != "\x00\xff\x10" {
		t.Error(b, ok)
	}
	// Every text of two signs: those that Hex tells, and no other one.
	for high := range 256 {
		for low := range 256 {
			s := string([]byte{byte(high), byte(low)})
			b, ok := octet.Unhex(s)
			if ok && (len(b) != 1 || octet.Hex(b) != s) {
				t.Fatalf("%q: %x", s, b)
			}
			right := strings.IndexByte("0123456789abcdef", byte(high)) >= 0 && strings.IndexByte("0123456789abcdef", byte(low)) >= 0
			if ok != right || !ok && b != nil {
				t.Fatalf("%q: %x, %v", s, b, ok)
			}
		}
	}
}

func TestUnhexRefuses(t *testing.T) {
	for _, s := range []string{"0", "000", "0g", "g0", "FF", "fF", " 00", "00 ", "0x", "00\n", "0\x00", "é", "00é", "001", "0000g0", "0000f"} {
		if b, ok := octet.Unhex(s); ok || b != nil {
			t.Errorf("%q: %x, %v", s, b, ok)
		}
	}
}

func TestText(t *testing.T) {
	for _, n := range []int{0, 1, -1, 9, 10, -10, 12, -12, 99, 100, 255, 65536, 1000000000, math.MaxInt32, math.MinInt32, math.MaxUint32, math.MaxUint32 + 1, math.MaxInt, math.MinInt, math.MinInt + 1} {
		if s := octet.Text(n); s != fmt.Sprint(n) {
			t.Error(n, s)
		}
	}
}

func TestInt(t *testing.T) {
	for _, n := range []int{0, 1, 9, 10, 11, 100, 65535, 65536, 999999999, 1000000000, 4294967294, 4294967295} {
		if got, ok := octet.Int(fmt.Sprint(n)); !ok || got != n {
			t.Error(n, got, ok)
		}
	}
	for _, s := range []string{
		"", "00", "01", "007", "0000000000", "00000000001", "-", "-0", "-1", "+1", "+0", " 1", "1 ", "1\n", "1.0", "1e3", "0x1", "a", "1a", "a1", "f", "1_000", "١", "1\x00", "\xff",
		"4294967296", "4294967300", "5000000000", "9999999999", "10000000000", "42949672950", "18446744073709551616", "18446744073709551617", "340282366920938463463374607431768211457",
		strings.Repeat("1", 1000),
	} {
		if n, ok := octet.Int(s); ok || n != 0 {
			t.Errorf("%q: %d, %v", s, n, ok)
		}
	}
}

// P1.4

// spread goes over numbers of all sizes, in an order that is the same each time.
func spread(count int, see func(n uint64)) {
	x := uint64(88172645463325252)
	for i := range count {
		x ^= x << 13
		x ^= x >> 7
		x ^= x << 17
		see(x >> (i % 64))
	}
}

func TestWhatWasPutIsRead(t *testing.T) {
	spread(2000, func(n uint64) {
		b := octet.Put32(octet.Put16(octet.Put32([]byte{byte(n)}, uint32(n)), int(n)), uint32(n>>32))
		r := octet.New(b)
		if r.Byte() != int(n&255) || r.U32() != uint32(n) || r.U16() != int(n&65535) || r.U32() != uint32(n>>32) || r.Left() != 0 || r.Err() != api.OK {
			t.Fatalf("%d: %x", n, b)
		}
		if got, ok := octet.Unhex(octet.Hex(b)); !ok || !bytes.Equal(got, b) {
			t.Fatalf("%x: %x, %v", b, got, ok)
		}
		if got, ok := octet.Int(octet.Text(int(n))); ok != (n <= math.MaxUint32) || ok && got != int(n) {
			t.Fatalf("%d: %d, %v", n, got, ok)
		}
	})
}
