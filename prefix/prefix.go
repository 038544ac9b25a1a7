// Package prefix is numbers of four bytes, and prefixes of them.
package prefix

import (
	"cmp"
	"math/bits"
	"slices"

	"speculum/api"
	"speculum/octet"
)

// size is how many bits a number has.
const size = 32

// Mask is the number whose first bits are 1.
func Mask(n int) uint32 {
	return ^uint32(0) << (size - within(n))
}

// within brings a length between 0 and 32.
func within(n int) int {
	return min(max(n, 0), size)
}

// Right tells whether a prefix may be.
func Right(p api.Prefix) bool {
	return p.Len >= 0 && p.Len <= size && p.Addr&^Mask(p.Len) == 0
}

// Norm is a right prefix of a number.
func Norm(addr uint32, n int) api.Prefix {
	return api.Prefix{Addr: addr & Mask(n), Len: within(n)}
}

// Bit is a bit of a number.
func Bit(addr uint32, i int) int {
	if i < 0 || i >= size {
		return 0
	}
	return int(addr >> (size - 1 - i) & 1)
}

// Holds tells whether a number is within a prefix.
func Holds(p api.Prefix, addr uint32) bool {
	return Right(p) && addr&Mask(p.Len) == p.Addr
}

// Covers tells whether a prefix is within another one.
func Covers(p, q api.Prefix) bool {
	return Right(q) && q.Len >= p.Len && Holds(p, q.Addr)
}

// Compare tells which of two comes first.
func Compare(p, q api.Prefix) int {
	return cmp.Or(cmp.Compare(p.Addr, q.Addr), cmp.Compare(p.Len, q.Len))
}

// Common is the longest that covers two.
func Common(p, q api.Prefix) api.Prefix {
	if !Right(p) || !Right(q) {
		return api.Prefix{}
	}
	alike := bits.LeadingZeros32(p.Addr ^ q.Addr)
	return Norm(p.Addr, min(alike, p.Len, q.Len))
}

// Addr is a number as a text.
func Addr(a uint32) string {
	out := octet.Text(int(a >> 24))
	for shift := 16; shift >= 0; shift -= 8 {
		out += "." + octet.Text(int(a>>shift&255))
	}
	return out
}

// ParseAddr is the number of a text.
func ParseAddr(s string) (uint32, bool) {
	a, rest := uint32(0), s
	for range 3 {
		part, behind := cut(rest, '.')
		n, ok := octet.Int(part)
		if !ok || n > 255 {
			return 0, false
		}
		a, rest = a<<8|uint32(n), behind
	}
	n, ok := octet.Int(rest)
	if !ok || n > 255 {
		return 0, false
	}
	return a<<8 | uint32(n), true
}

// cut tells what stands ahead of the first such sign (of one byte), and behind it.
// Without the sign nothing stands behind, which is no number in digits.
func cut(s string, sign rune) (string, string) {
	for i, c := range s {
		if c == sign {
			return s[:i], s[i+1:]
		}
	}
	return s, ""
}

// Text is a prefix as a text.
func Text(p api.Prefix) string {
	if !Right(p) {
		return ""
	}
	return Addr(p.Addr) + "/" + octet.Text(p.Len)
}

// Parse is the prefix of a text.
func Parse(s string) (api.Prefix, bool) {
	ahead, behind := cut(s, '/')
	addr, okAddr := ParseAddr(ahead)
	n, okLen := octet.Int(behind)
	p := api.Prefix{Addr: addr, Len: n}
	if !okAddr || !okLen || !Right(p) {
		return api.Prefix{}, false
	}
	return p, true
}

// room is how many bytes hold so many bits.
func room(n int) int { return (n + 7) / 8 }

// Put puts a prefix's bytes.
func Put(b []byte, p api.Prefix) ([]byte, api.Errno) {
	if !Right(p) {
		return nil, api.EARG
	}
	return slices.Concat(b, []byte{byte(p.Len)}, octet.Put32(nil, p.Addr)[:room(p.Len)]), api.OK
}

// Read reads a prefix.
func Read(r *octet.Reader) (api.Prefix, api.Errno) {
	n := r.Byte()
	if e := r.Err(); e != api.OK {
		return api.Prefix{}, e
	}
	if n > size {
		return api.Prefix{}, api.EFORM
	}
	b := r.Take(room(n))
	if e := r.Err(); e != api.OK {
		return api.Prefix{}, e
	}
	// What did not come is 0, so that four bytes always make the number.
	var whole [4]byte
	copy(whole[:], b)
	return Norm(octet.New(whole[:]).U32(), n), api.OK
}

// List is all prefixes of bytes.
func List(b []byte) ([]api.Prefix, api.Errno) {
	var out []api.Prefix
	r := octet.New(b)
	for r.Left() > 0 {
		p, e := Read(r)
		if e != api.OK {
			return nil, e
		}
		out = append(out, p)
	}
	return out, api.OK
}
