package prefix_test

import (
	"bytes"
	"fmt"
	"math"
	"slices"
	"testing"

	"speculum/api"
	"speculum/octet"
	"speculum/prefix"
)

const (
	ten = 10 << 24
	all = math.MaxUint32
)

func of(addr uint32, n int) api.Prefix { return api.Prefix{Addr: addr, Len: n} }

// wrong are prefixes that are not right, each by another cause.
func wrong() []api.Prefix {
	return []api.Prefix{
		of(0, -1), of(0, 33), of(all, 33), of(all, -1), of(0, math.MaxInt), of(0, math.MinInt),
		of(1, 0), of(1<<31, 0), of(all, 31), of(1, 31), of(ten|1<<23, 8), of(ten|1, 8), of(3<<30, 1),
	}
}

// some are right prefixes, in the order of Compare: close ones, far ones, and both ends.
func some() []api.Prefix {
	return []api.Prefix{
		of(0, 0), of(0, 1), of(0, 8), of(0, 32), of(1, 32), of(ten, 7), of(ten, 8), of(ten, 9), of(ten, 32),
		of(ten|1, 32), of(ten|1<<16, 16), of(ten|2<<16, 16), of(ten|128<<16, 9), of(127<<24, 8),
		of(1<<31, 1), of(1<<31, 32), of(192<<24, 2), of(all-1, 31), of(all-1, 32), of(all, 32),
	}
}

// P2.1

func TestMask(t *testing.T) {
	for n, want := range map[int]uint32{
		0: 0, 1: 1 << 31, 8: 0xff000000, 9: 0xff800000, 16: 0xffff0000, 24: 0xffffff00, 31: all - 1, 32: all,
		-1: 0, -32: 0, math.MinInt: 0, 33: all, 64: all, math.MaxInt: all,
	} {
		if m := prefix.Mask(n); m != want {
			t.Errorf("%d: %x", n, m)
		}
	}
	for n := range 33 {
		for i := range 32 {
			if one := prefix.Mask(n)>>(31-i)&1 == 1; one != (i < n) {
				t.Errorf("of %d the bit %d", n, i)
			}
		}
	}
}

func TestRight(t *testing.T) {
	for _, p := range some() {
		if !prefix.Right(p) {
			t.Error(p)
		}
	}
	for _, p := range wrong() {
		if prefix.Right(p) {
			t.Error(p)
		}
	}
	for n := range 33 {
		if !prefix.Right(of(prefix.Mask(n), n)) || n < 32 && prefix.Right(of(all, n)) || n > 0 && prefix.Right(of(prefix.Mask(n), n-1)) {
			t.Error(n)
		}
	}
}

func TestNorm(t *testing.T) {
	for _, c := range []struct {
		addr uint32
		n    int
		want api.Prefix
	}{
		{0x0a010203, 16, of(0x0a010000, 16)}, {all, 0, of(0, 0)}, {all, 32, of(all, 32)}, {all, 1, of(1<<31, 1)}, {all, 31, of(all-1, 31)},
		{all, -1, of(0, 0)}, {all, math.MinInt, of(0, 0)}, {all, 33, of(all, 32)}, {5, math.MaxInt, of(5, 32)}, {0x0a010203, 15, of(ten, 15)},
	} {
		if p := prefix.Norm(c.addr, c.n); p != c.want || !prefix.Right(p) {
			t.Error(c, p)
		}
	}
}

func TestBit(t *testing.T) {
	for i := range 32 {
		if prefix.Bit(1<<31>>i, i) != 1 || prefix.Bit(^uint32(1<<31>>i), i) != 0 {
			t.Error(i)
		}
	}
	for _, i := range []int{-1, 32, 33, 64, -32, math.MaxInt, math.MinInt} {
		if prefix.Bit(all, i) != 0 {
			t.Error(i)
		}
	}
}

// P2.2

func TestHolds(t *testing.T) {
	p := of(ten|1<<16, 16)
	for addr, want := range map[uint32]bool{
		ten | 1<<16: true, 0x0a01ffff: true, 0x0a020000: false, 0x0a00ffff: false, 0: false, all: false,
	} {
		if prefix.Holds(p, addr) != want {
			t.Errorf("%x", addr)
		}
	}
	if !prefix.Holds(of(0, 0), all) || !prefix.Holds(of(0, 0), 0) || !prefix.Holds(of(all, 32), all) || prefix.Holds(of(all, 32), all-1) {
		t.Error("Len 0 and 32")
	}
	for _, w := range wrong() {
		if prefix.Holds(w, w.Addr) || prefix.Holds(w, 0) {
			t.Error("one that is not right holds", w)
		}
	}
}

// Covers is held against its words, spelt out bit by bit.
func TestCovers(t *testing.T) {
	every := append(some(), wrong()...)
	for _, p := range every {
		for _, q := range every {
			want := prefix.Right(p) && prefix.Right(q) && p.Len <= q.Len
			for i := 0; want && i < min(p.Len, 32); i++ {
				want = prefix.Bit(p.Addr, i) == prefix.Bit(q.Addr, i)
			}
			if prefix.Covers(p, q) != want {
				t.Error(p, q, want)
			}
		}
	}
	eight, sixteen := of(ten, 8), of(ten|1<<16, 16)
	if !prefix.Covers(eight, sixteen) || prefix.Covers(sixteen, eight) || prefix.Covers(of(ten, 16), eight) || prefix.Covers(eight, of(11<<24, 8)) {
		t.Error("10.0.0.0/8 covers 10.1.0.0/16")
	}
	if !prefix.Covers(of(0, 0), of(all, 32)) || prefix.Covers(of(all, 32), of(0, 0)) || !prefix.Covers(of(0, 0), of(0, 0)) {
		t.Error("Len 0 and 32")
	}
}

func TestCompare(t *testing.T) {
	l := some()
	for i, p := range l {
		for j, q := range l {
			want := 0
			if i < j {
				want = -1
			} else if i > j {
				want = 1
			}
			if got := prefix.Compare(p, q); got != want {
				t.Error(p, q, got)
			}
		}
	}
	if prefix.Compare(of(all, 0), of(1, 32)) != 1 || prefix.Compare(of(1<<31, 1), of(1<<31-1, 32)) != 1 {
		t.Error("Addr counts as a number without a sign, ahead of Len")
	}
	if prefix.Compare(of(5, -1), of(5, 0)) != -1 || prefix.Compare(of(5, math.MinInt), of(5, math.MaxInt)) != -1 || prefix.Compare(of(5, math.MaxInt), of(5, math.MinInt)) != 1 {
		t.Error("any Len")
	}
}

func TestCommon(t *testing.T) {
	for _, c := range []struct{ p, q, want api.Prefix }{
		{of(ten|1<<16, 16), of(ten|2<<16, 16), of(ten, 14)},
		{of(ten, 8), of(ten|1<<16, 16), of(ten, 8)},
		{of(ten, 8), of(ten, 8), of(ten, 8)},
		{of(all, 32), of(all, 32), of(all, 32)},
		{of(all, 32), of(all-1, 32), of(all-1, 31)},
		{of(0, 32), of(all, 32), of(0, 0)},
		{of(0, 0), of(all, 32), of(0, 0)},
		{of(ten, 8), of(ten, 32), of(ten, 8)},
	} {
		if got := prefix.Common(c.p, c.q); got != c.want || prefix.Common(c.q, c.p) != c.want {
			t.Error(c, got)
		}
	}
	for _, w := range wrong() {
		for _, p := range append(some(), wrong()...) {
			if prefix.Common(w, p) != of(0, 0) || prefix.Common(p, w) != of(0, 0) {
				t.Error(w, p)
			}
		}
	}
}

func TestCommonIsTheLongest(t *testing.T) {
	for _, p := range some() {
		for _, q := range some() {
			c := prefix.Common(p, q)
			if !prefix.Covers(c, p) || !prefix.Covers(c, q) {
				t.Error(p, q, "not covered by", c)
			}
			for n := c.Len + 1; n <= 32; n++ {
				longer := prefix.Norm(p.Addr, n)
				if prefix.Covers(longer, p) && prefix.Covers(longer, q) {
					t.Error(p, q, "covered by", longer)
				}
			}
		}
	}
}

// P2.3

func TestAddr(t *testing.T) {
	for a, s := range map[uint32]string{
		0: "0.0.0.0", all: "255.255.255.255", 0x0a010203: "10.1.2.3", 1: "0.0.0.1", 1 << 31: "128.0.0.0", 0xc0a80064: "192.168.0.100",
	} {
		if prefix.Addr(a) != s {
			t.Error(prefix.Addr(a), s)
		}
		if got, ok := prefix.ParseAddr(s); !ok || got != a {
			t.Error(s, got, ok)
		}
	}
}

func TestParseAddrRefuses(t *testing.T) {
	for _, s := range []string{
		"", ".", "...", "1", "1.2", "1.2.3", "1.2.3.", ".1.2.3", "1..2.3", "1.2..3", "1.2.3.4.", "1.2.3.4.5", ".1.2.3.4", "1,2,3,4",
		"256.0.0.0", "0.256.0.0", "0.0.256.0", "0.0.0.256", "0.0.0.4294967296", "01.2.3.4", "1.02.3.4", "1.2.3.04", "1.2.3.00",
		"-1.2.3.4", "1.2.3.-4", "+1.2.3.4", " 1.2.3.4", "1.2.3.4 ", "1. 2.3.4", "a.2.3.4", "1.2.3.f", "1.2.3.4/32", "1.2.3.4\n", "1\u00b72.3.4", "١.2.3.4", "1.2.3.\xff", "1.\xff.3.4", "1。2。3。4",
	} {
		if a, ok := prefix.ParseAddr(s); ok || a != 0 {
			t.Errorf("%q: %x, %v", s, a, ok)
		}
	}
}

func TestText(t *testing.T) {
	for s, p := range map[string]api.Prefix{
		"10.1.0.0/16": of(0x0a010000, 16), "0.0.0.0/0": of(0, 0), "0.0.0.0/32": of(0, 32), "255.255.255.255/32": of(all, 32), "128.0.0.0/1": of(1<<31, 1), "10.0.0.0/8": of(ten, 8),
	} {
		if prefix.Text(p) != s {
			t.Error(prefix.Text(p), s)
		}
		if got, ok := prefix.Parse(s); !ok || got != p {
			t.Error(s, got, ok)
		}
	}
	for _, p := range wrong() {
		if prefix.Text(p) != "" {
			t.Error(p, prefix.Text(p))
		}
	}
}

func TestParseRefuses(t *testing.T) {
	for _, s := range []string{
		"", "/", "/8", "10.0.0.0", "10.0.0.0/", "10.0.0/8", "10.0.0.0.0/8", "10.0.0.0/8/8", "10.0.0.0//8", "10.0.0.0/8/", "8/10.0.0.0",
		"10.1.0.0/8", "10.0.0.1/31", "0.0.0.1/0", "128.0.0.0/0", "10.0.0.0/33", "10.0.0.0/-1", "10.0.0.0/08", "10.0.0.0/+8", "10.0.0.0/4294967304", "10.0.0.0/18446744073709551624",
		"10.0.0.256/32", "10.01.0.0/16", " 10.0.0.0/8", "10.0.0.0/8 ", "10.0.0.0 /8", "10.0.0.0/ 8", "10.0.0.0/a", "10.0.0.0/\xff", "10.0.0.0\xff/8", "10.0.0.0\\8", "10.0.0.0／8",
	} {
		if p, ok := prefix.Parse(s); ok || p != of(0, 0) {
			t.Errorf("%q: %v, %v", s, p, ok)
		}
	}
}

// P2.4

func TestPut(t *testing.T) {
	for _, c := range []struct {
		p    api.Prefix
		want string
	}{
		{of(0, 0), "\x00"}, {of(1<<31, 1), "\x01\x80"}, {of(ten, 8), "\x08\x0a"}, {of(ten, 9), "\x09\x0a\x00"}, {of(ten|1<<16, 16), "\x10\x0a\x01"},
		{of(ten|128, 25), "\x19\x0a\x00\x00\x80"}, {of(ten|5<<8, 24), "\x18\x0a\x00\x05"}, {of(0x01020304, 32), "\x20\x01\x02\x03\x04"}, {of(ten, 17), "\x11\x0a\x00\x00"},
	} {
		if b, e := prefix.Put(nil, c.p); e != api.OK || string(b) != c.want {
			t.Errorf("%v: %x, %d", c.p, b, e)
		}
		if b, e := prefix.Put([]byte{7, 8}, c.p); e != api.OK || string(b) != "\x07\x08"+c.want {
			t.Errorf("%v behind two: %x, %d", c.p, b, e)
		}
	}
	for _, p := range wrong() {
		if b, e := prefix.Put([]byte{7}, p); e != api.EARG || len(b) != 0 {
			t.Errorf("%v: %x, %d", p, b, e)
		}
	}
}

// Rule 4: neither the list nor the room behind its end is changed.
func TestPutLeavesRoom(t *testing.T) {
	whole := []byte{1, 2, 3, 4, 5, 6, 7, 8}
	first, _ := prefix.Put(whole[:2], of(ten, 8))
	second, _ := prefix.Put(whole[:2], of(ten, 32))
	prefix.Put(whole[:2], of(1, 8))
	if !bytes.Equal(whole, []byte{1, 2, 3, 4, 5, 6, 7, 8}) || !bytes.Equal(first, []byte{1, 2, 8, 10}) || !bytes.Equal(second, []byte{1, 2, 32, 10, 0, 0, 0}) {
		t.Error(whole, first, second)
	}
	left, _ := prefix.Put(first, of(0, 0))
	right, _ := prefix.Put(first, of(1<<31, 1))
	if left[4] != 0 || right[4] != 1 {
		t.Error("two lists made of one meddle with each other", left, right)
	}
}

func TestRead(t *testing.T) {
	for _, c := range []struct {
		b    string
		p    api.Prefix
		e    api.Errno
		left int
	}{
		{"\x00", of(0, 0), api.OK, 0},
		{"\x00\x09", of(0, 0), api.OK, 1},
		{"\x08\x0a", of(ten, 8), api.OK, 0},
		{"\x08\x0a\x01", of(ten, 8), api.OK, 1},
		{"\x20\x01\x02\x03\x04", of(0x01020304, 32), api.OK, 0},
		// Bits behind Len are of no matter.
		{"\x01\xff", of(1<<31, 1), api.OK, 0},
		{"\x09\x0a\xff", of(ten|128<<16, 9), api.OK, 0},
		{"\x1f\xff\xff\xff\xff", of(all-1, 31), api.OK, 0},
		{"\x07\x0b", of(ten, 7), api.OK, 0},
		// Just the byte of Len is gone by.
		{"\x21", of(0, 0), api.EFORM, 0},
		{"\x21\x01\x02\x03\x04\x05", of(0, 0), api.EFORM, 5},
		{"\xff\x01", of(0, 0), api.EFORM, 1},
		{"", of(0, 0), api.ESHORT, 0},
		{"\x01", of(0, 0), api.ESHORT, 0},
		{"\x08", of(0, 0), api.ESHORT, 0},
		{"\x09\x0a", of(0, 0), api.ESHORT, 0},
		{"\x20\x01\x02\x03", of(0, 0), api.ESHORT, 0},
		{"\x19\x01\x02\x03", of(0, 0), api.ESHORT, 0},
	} {
		r := octet.New([]byte(c.b))
		p, e := prefix.Read(r)
		if p != c.p || e != c.e || r.Left() != c.left {
			t.Errorf("%x: %v, %d, %d left", c.b, p, e, r.Left())
		}
		if short := r.Err() == api.ESHORT; short != (c.e == api.ESHORT) {
			t.Errorf("%x: the reader tells %d", c.b, r.Err())
		}
	}
}

func TestReadOfOthers(t *testing.T) {
	if p, e := prefix.Read(nil); e != api.ENIL || p != of(0, 0) {
		t.Error("nil", p, e)
	}
	r := octet.New([]byte{0, 8, 10})
	r.Take(4)
	if p, e := prefix.Read(r); e != api.ESHORT || p != of(0, 0) {
		t.Error("short already", p, e)
	}
	r = octet.New([]byte{33, 8, 10})
	prefix.Read(r)
	if p, e := prefix.Read(r); e != api.OK || p != of(ten, 8) {
		t.Error("behind a Len above 32", p, e)
	}
}

func TestList(t *testing.T) {
	for _, c := range []struct {
		b    string
		want []api.Prefix
		e    api.Errno
	}{
		{"", nil, api.OK},
		{"\x00", []api.Prefix{of(0, 0)}, api.OK},
		{"\x00\x00", []api.Prefix{of(0, 0), of(0, 0)}, api.OK},
		{"\x09\x0a\xff\x08\x0a\x00", []api.Prefix{of(ten|128<<16, 9), of(ten, 8), of(0, 0)}, api.OK},
		{"\x20\x00\x00\x00\x01\x08\x0a", []api.Prefix{of(1, 32), of(ten, 8)}, api.OK},
		{"\x08\x0a\x21", nil, api.EFORM},
		{"\x08\x0a\x21\x08", nil, api.EFORM},
		{"\x21\x08", nil, api.EFORM},
		{"\x10\x0a", nil, api.ESHORT},
		{"\x00\x10\x0a", nil, api.ESHORT},
		{"\x08", nil, api.ESHORT},
	} {
		l, e := prefix.List([]byte(c.b))
		if e != c.e || !slices.Equal(l, c.want) {
			t.Errorf("%x: %v, %d", c.b, l, e)
		}
	}
	if l, e := prefix.List(nil); e != api.OK || len(l) != 0 {
		t.Error("nil", l, e)
	}
}

// P2.5

func TestWhatIsPutIsRead(t *testing.T) {
	var b []byte
	for _, p := range some() {
		alone, e := prefix.Put(nil, p)
		if e != api.OK || len(alone) != 1+(p.Len+7)/8 {
			t.Errorf("%v: %x, %d", p, alone, e)
		}
		if got, e := prefix.Read(octet.New(alone)); e != api.OK || got != p {
			t.Error(p, got, e)
		}
		if got, ok := prefix.Parse(prefix.Text(p)); !ok || got != p {
			t.Error(p, got, ok)
		}
		b, _ = prefix.Put(b, p)
	}
	if l, e := prefix.List(b); e != api.OK || !slices.Equal(l, some()) {
		t.Error(l, e)
	}
}

func TestAllLengthsAreReadAsPut(t *testing.T) {
	x := uint32(2463534242)
	for i := range 33 * 200 {
		x ^= x << 13
		x ^= x >> 17
		x ^= x << 5
		p := prefix.Norm(x, i%33)
		b, e := prefix.Put(nil, p)
		if got, er := prefix.Read(octet.New(b)); e != api.OK || er != api.OK || got != p {
			t.Fatal(p, got, e, er)
		}
		want := fmt.Sprintf("%d.%d.%d.%d/%d", p.Addr>>24, p.Addr>>16&255, p.Addr>>8&255, p.Addr&255, p.Len)
		if got, ok := prefix.Parse(want); !ok || got != p || prefix.Text(p) != want {
			t.Fatal(p, got, ok, prefix.Text(p))
		}
		if !prefix.Right(p) || !prefix.Covers(p, p) || !prefix.Holds(p, x) {
			t.Fatal(p)
		}
	}
}

func TestCoveringGoesOn(t *testing.T) {
	l := some()
	for _, p := range l {
		if !prefix.Covers(p, p) {
			t.Error(p)
		}
		for _, q := range l {
			if p != q && prefix.Covers(p, q) && (prefix.Covers(q, p) || prefix.Compare(p, q) != -1) {
				t.Error("each covers the other, or the covered one comes first", p, q)
			}
			for _, s := range l {
				if prefix.Covers(p, q) && prefix.Covers(q, s) && !prefix.Covers(p, s) {
					t.Error(p, q, s)
				}
			}
		}
	}
}
