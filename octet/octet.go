// Package octet is numbers as bytes, as digits, and a reader of bytes.
package octet

import (
	"bytes"
	"math"

	"speculum/api"
)

var digits = [16]byte{'0', '1', '2', '3', '4', '5', '6', '7', '8', '9', 'a', 'b', 'c', 'd', 'e', 'f'}

// Put16 puts a number of two bytes.
func Put16(b []byte, n int) []byte { return put(b, n, 2) }

// Put32 puts a number of four bytes.
func Put32(b []byte, n uint32) []byte { return put(b, n, 4) }

// put copies b instead of appending to it: another list may lie in the room behind b's end.
func put[N int | uint32](b []byte, n N, width int) []byte {
	out := make([]byte, len(b), len(b)+width)
	copy(out, b)
	for i := width - 1; i >= 0; i-- {
		out = append(out, byte(n>>(8*i)))
	}
	return out
}

// Reader reads bytes.
type Reader struct {
	rest  []byte
	short bool
}

// New is a reader of bytes.
func New(b []byte) *Reader { return &Reader{rest: b} }

// next gives out a piece of what was handed in; Take alone tells it outside, as a copy.
func (r *Reader) next(n int) []byte {
	if r == nil {
		return nil
	}
	// Without a rest it stays short by itself: nothing more can be taken.
	if n < 0 || n > len(r.rest) {
		r.short, r.rest = true, nil
		return nil
	}
	out := r.rest[:n]
	r.rest = r.rest[n:]
	return out
}

// number is 0 of no bytes, which is what a short reader tells.
func number(b []byte) uint32 {
	n := uint32(0)
	for _, c := range b {
		n = n<<8 | uint32(c)
	}
	return n
}

// Take is the next bytes.
func (r *Reader) Take(n int) []byte { return bytes.Clone(r.next(n)) }

// Byte is the number of the next byte.
func (r *Reader) Byte() int { return int(number(r.next(1))) }

// U16 is the number of the next two bytes.
func (r *Reader) U16() int { return int(number(r.next(2))) }

// U32 is the number of the next four bytes.
func (r *Reader) U32() uint32 { return number(r.next(4)) }

// Left is how many bytes were not gone by.
func (r *Reader) Left() int {
	if r == nil {
		return 0
	}
	return len(r.rest)
}

// Err tells whether there were too few bytes.
func (r *Reader) Err() api.Errno {
	switch {
	case r == nil:
		return api.ENIL
	case r.short:
		return api.ESHORT
	}
	return api.OK
}

// Hex is bytes in digits.
func Hex(b []byte) string {
	out := make([]byte, 0, 2*len(b))
	for _, c := range b {
		out = append(out, digits[c>>4], digits[c&15])
	}
	return string(out)
}

// Unhex is the bytes of digits.
func Unhex(s string) ([]byte, bool) {
	if len(s)%2 != 0 {
		return nil, false
	}
	out := make([]byte, 0, len(s)/2)
	for i := 0; i < len(s); i += 2 {
		high, low := digit(s[i]), digit(s[i+1])
		if high < 0 || low < 0 {
			return nil, false
		}
		out = append(out, byte(high<<4|low))
	}
	return out, true
}

// digit is what a sign counts as a digit; -1 of one that is none.
func digit(c byte) int {
	for i, d := range digits {
		if d == c {
			return i
		}
	}
	return -1
}

// Text is a number in decimal digits.
func Text(n int) string {
	if n < 0 {
		// Turned round without a sign, since the least int has no counterpart above 0.
		return "-" + decimal(-uint(n))
	}
	return decimal(uint(n))
}

func decimal(n uint) string {
	var out [20]byte // as many digits as the greatest uint has
	at := len(out)
	for {
		at--
		out[at] = digits[n%10]
		n /= 10
		if n == 0 {
			return string(out[at:])
		}
	}
}

// Int is the number of decimal digits.
func Int(s string) (int, bool) {
	// 2^32 - 1 has ten digits; more might run over while they are counted.
	if len(s) == 0 || len(s) > 10 || len(s) > 1 && s[0] == '0' {
		return 0, false
	}
	n := 0
	for i := range len(s) {
		d := digit(s[i])
		if d < 0 || d > 9 {
			return 0, false
		}
		n = n*10 + d
	}
	if n > math.MaxUint32 {
		return 0, false
	}
	return n, true
}
