package filter_test

import (
	"fmt"
	"math"
	"slices"
	"testing"

	"speculum/api"
	"speculum/filter"
	"speculum/prefix"
)

const ten = 10 << 24

func of(addr uint32, n int) api.Prefix { return api.Prefix{Addr: addr, Len: n} }

func span(p api.Prefix, from, to int) api.Range { return api.Range{Prefix: p, Min: from, Max: to} }

// wrong is ranges that are not right.
func wrong() []api.Range {
	return []api.Range{
		// Lengths that are not from the prefix's own to 32.
		span(of(ten, 8), 7, 24), span(of(ten, 8), 0, 24), span(of(ten, 8), 8, 33), span(of(ten, 8), 7, 33), span(of(ten, 8), 33, 33), span(of(ten, 8), 0, 0), span(of(ten, 8), 7, 7), span(of(ten, 8), 8, 7),
		span(of(0, 0), -1, 8), span(of(0, 0), 0, 33), span(of(0, 0), -1, -1), span(of(1, 32), 31, 32), span(of(1, 32), 32, 33), span(of(1, 32), 31, 31), span(of(1, 32), 0, 0), span(of(1, 32), 33, 33),
		// The least above the greatest.
		span(of(ten, 8), 9, 8), span(of(ten, 8), 32, 8), span(of(0, 0), 1, 0), span(of(0, 0), 32, 31),
		// Numbers far off.
		span(of(ten, 8), 8, math.MaxInt), span(of(ten, 8), math.MinInt, 24), span(of(ten, 8), math.MaxInt, math.MinInt), span(of(ten, 8), math.MinInt, math.MaxInt), span(of(ten, 8), 1<<32+8, 1<<32+24), span(of(ten, 8), 8, 1<<32+24), span(of(ten, 8), 264, 280),
		// Prefixes that are not right.
		span(of(ten|1, 8), 8, 24), span(of(ten|1<<16, 8), 8, 24), span(of(1, 31), 31, 32), span(of(1, 0), 0, 32), span(of(1<<31, 0), 0, 32), span(of(ten, 33), 33, 33), span(of(ten, 33), 32, 32), span(of(ten, -1), 0, 32), span(of(0, -1), -1, 32), span(of(0, -1), 0, 0), span(of(0, math.MinInt), 0, 32), span(of(0, math.MaxInt), 0, 32),
	}
}

// right is ranges that are right, those at the ends of lengths among them.
func right() []api.Range {
	return []api.Range{
		span(of(ten, 8), 8, 24), span(of(ten, 8), 8, 8), span(of(ten, 8), 8, 32), span(of(ten, 8), 32, 32), span(of(ten, 8), 24, 24), span(of(ten, 8), 9, 31),
		span(of(0, 0), 0, 0), span(of(0, 0), 0, 32), span(of(0, 0), 32, 32), span(of(0, 0), 1, 31), span(of(0, 1), 1, 32), span(of(1<<31, 1), 1, 1),
		span(of(1, 32), 32, 32), span(of(0, 32), 32, 32), span(of(math.MaxUint32, 32), 32, 32), span(of(math.MaxUint32-1, 31), 31, 32), span(of(ten|1<<16, 16), 16, 24), span(of(ten|1<<16, 16), 20, 24),
	}
}

// P12.2

func TestRight(t *testing.T) {
	for _, x := range right() {
		if !filter.Right(x) {
			t.Error(x)
		}
	}
	for _, x := range wrong() {
		if filter.Right(x) {
			t.Error(x)
		}
	}
	// The zero one is all prefixes without a length: 0.0.0.0/0 0-0.
	if !filter.Right(api.Range{}) {
		t.Error("the zero one")
	}
	for n := -2; n <= 34; n++ {
		for from := -2; from <= 34; from++ {
			for to := -2; to <= 34; to++ {
				want := n >= 0 && n <= 32 && from >= n && from <= 32 && to >= n && to <= 32 && from <= to
				if filter.Right(span(of(0, n), from, to)) != want {
					t.Fatal(n, from, to)
				}
			}
		}
	}
}

func TestIn(t *testing.T) {
	x := span(of(ten, 8), 12, 24)
	for p, want := range map[api.Prefix]bool{
		of(ten, 12): true, of(ten, 24): true, of(ten|1<<16, 16): true, of(ten|255<<16, 24): true, of(ten|1<<20, 12): true,
		// Too short, and too long; the range's own prefix, too.
		of(ten, 8): false, of(ten, 11): false, of(ten, 25): false, of(ten|1, 32): false,
		// Not within it.
		of(11<<24, 16): false, of(9<<24, 16): false, of(0, 0): false, of(ten, 7): false, of(0, 16): false,
		// Not right.
		of(ten|1, 16): false, of(ten, -1): false, of(ten, 33): false, of(ten, math.MaxInt): false, of(ten, math.MinInt): false,
	} {
		if filter.In(x, p) != want {
			t.Error(p, !want)
		}
	}
	// Just one length, and that of the prefix itself.
	for n := -1; n <= 33; n++ {
		if filter.In(span(of(ten, 8), 8, 8), of(ten, n)) != (n == 8) || filter.In(span(of(ten, 8), 32, 32), of(ten, n)) != (n == 32) || filter.In(span(of(0, 0), 0, 0), of(0, n)) != (n == 0) {
			t.Error(n)
		}
		if filter.In(span(of(0, 0), 0, 32), of(0, n)) != (n >= 0 && n <= 32) {
			t.Error(n)
		}
	}
}

// Nothing is in a range that is not right, whatever its prefix covers.
func TestInOfWrong(t *testing.T) {
	for _, x := range wrong() {
		for n := range 33 {
			for _, addr := range []uint32{ten, 0, 1, ten | 1, ten | 1<<16, 1 << 31, x.Prefix.Addr} {
				if filter.In(x, prefix.Norm(addr, n)) || filter.Any([]api.Range{x, x}, prefix.Norm(addr, n)) {
					t.Error(x, addr, n)
				}
			}
		}
		if filter.In(x, x.Prefix) {
			t.Error(x)
		}
	}
}

func TestAny(t *testing.T) {
	l := []api.Range{span(of(ten, 8), 16, 16), span(of(11<<24, 8), 7, 32), span(of(ten, 8), 24, 24), span(of(1, 32), 32, 32)}
	was := slices.Clone(l)
	for p, want := range map[api.Prefix]bool{
		of(ten, 16): true, of(ten, 24): true, of(1, 32): true, of(ten|7<<16, 16): true,
		of(ten, 8): false, of(ten, 20): false, of(11<<24, 16): false, of(11<<24, 8): false, of(0, 0): false, of(2, 32): false, of(ten|1, 16): false,
	} {
		if filter.Any(l, p) != want {
			t.Error(p, !want)
		}
		if filter.Any(l[:1], p) != filter.In(l[0], p) || filter.Any(l[:0], p) || filter.Any(nil, p) {
			t.Error(p)
		}
	}
	if !slices.Equal(l, was) {
		t.Error(l)
	}
}

// P12.3

func TestText(t *testing.T) {
	for s, x := range map[string]api.Range{
		"10.0.0.0/8 8-24": span(of(ten, 8), 8, 24), "10.0.0.0/8 8-8": span(of(ten, 8), 8, 8), "0.0.0.0/0 0-0": span(of(0, 0), 0, 0), "0.0.0.0/0 0-32": span(of(0, 0), 0, 32), "0.0.0.0/0 32-32": span(of(0, 0), 32, 32),
		"255.255.255.255/32 32-32": span(of(math.MaxUint32, 32), 32, 32), "10.1.0.0/16 16-32": span(of(ten|1<<16, 16), 16, 32), "128.0.0.0/1 9-10": span(of(1<<31, 1), 9, 10),
	} {
		if filter.Text(x) != s {
			t.Errorf("%v: %q", x, filter.Text(x))
		}
		if got, ok := filter.Parse(s); !ok || got != x {
			t.Errorf("%q: %v, %v", s, got, ok)
		}
	}
	for _, x := range wrong() {
		if filter.Text(x) != "" {
			t.Errorf("%v: %q", x, filter.Text(x))
		}
	}
}

func TestParseRefuses(t *testing.T) {
	l := []string{
		"", " ", "-", " -", "/ -", "10.0.0.0/8", "10.0.0.0/8 ", "10.0.0.0/8 8", "10.0.0.0/8 -", "10.0.0.0/8 8-", "10.0.0.0/8 -24", " 8-24", "8-24", "8-24 10.0.0.0/8",
		"10.0.0.0/8  8-24", " 10.0.0.0/8 8-24", "10.0.0.0/8 8-24 ", "10.0.0.0/8 8 -24", "10.0.0.0/8 8- 24", "10.0.0.0/8 8 24", "10.0.0.0/88-24", "10.0.0.0/8-24", "10.0.0.0/8\t8-24", "10.0.0.0/8_8-24", "10.0.0.0/8\u00a08-24", "10.0.0.0/8 8-24\n", "10.0.0.0/8 8-24\x00", "10.0.0.0/8 8-24\xff", "10.0.0.0/8\xff 8-24",
		"10.0.0.0/8 8--24", "10.0.0.0/8 8-24-", "10.0.0.0/8 8-24-32", "10.0.0.0/8 -8-24", "10.0.0.0/8 8–24", "10.0.0.0/8 8:24", "10.0.0.0/8 8,24", "10.0.0.0/8 8..24", "10.0.0.0/8 8-24 8-24",
		"10.0.0.0/8 08-24", "10.0.0.0/8 8-024", "10.0.0.0/8 +8-24", "10.0.0.0/8 8-+24", "10.0.0.0/8 a-24", "10.0.0.0/8 8-x", "10.0.0.0/8 ٨-24", "0.0.0.0/0 00-0", "0.0.0.0/0 0-00", "0.0.0.0/0 -0", "0.0.0.0/0 0-", "0.0.0.0/0 x-0", "0.0.0.0/0 0-x", "0.0.0.0/0 0",
		// Prefixes that are not right, or not written so.
		"10.0.0.1/8 8-24", "10.1.0.0/8 8-24", "10.0.0.0/33 33-33", "10.0.0/8 8-24", "10.0.0.0.0/8 8-24", "10.0.0.256/32 32-32", "010.0.0.0/8 8-24", "10.0.0.0/08 8-24", "10.0.0.0 8-24", "10.0.0.0/ 8-24", "10.0.0.0/8/8 8-24", "0.0.0.1/0 0-32", "x 0-0", " 0-0", "/0 0-0",
		// Lengths that are not right.
		"10.0.0.0/8 7-24", "10.0.0.0/8 0-24", "10.0.0.0/8 8-33", "10.0.0.0/8 24-8", "10.0.0.0/8 9-8", "10.0.0.0/8 33-33", "0.0.0.0/0 1-0", "0.0.0.1/32 31-32", "10.0.0.0/8 8-4294967320", "10.0.0.0/8 4294967304-4294967320", "10.0.0.0/8 8-18446744073709551640", "10.0.0.0/8 8-4294967296",
	}
	for _, s := range l {
		if x, ok := filter.Parse(s); ok || x != (api.Range{}) {
			t.Errorf("%q: %v, %v", s, x, ok)
		}
	}
}

// P12.4

func TestWhatIsWrittenIsRead(t *testing.T) {
	for _, x := range right() {
		if got, ok := filter.Parse(filter.Text(x)); !ok || got != x {
			t.Error(x, got, ok)
		}
	}
	for n := range 33 {
		p := prefix.Norm(0xC0A8A5A5, n)
		for from := n; from <= 32; from++ {
			for to := from; to <= 32; to++ {
				x := span(p, from, to)
				s := filter.Text(x)
				if want := fmt.Sprintf("%s %d-%d", prefix.Text(p), from, to); s != want {
					t.Fatal(s, want)
				}
				if got, ok := filter.Parse(s); !ok || got != x {
					t.Fatal(s, got, ok)
				}
			}
		}
	}
}

func TestInGoesOn(t *testing.T) {
	const addr = 0xC0A8A5A5
	for outer := range 33 {
		for inner := outer; inner <= 32; inner++ {
			for from := inner; from <= 32; from += 3 {
				for to := from; to <= 32; to += 5 {
					near, far := span(prefix.Norm(addr, inner), from, to), span(prefix.Norm(addr, outer), from, to)
					for n := range 33 {
						p := prefix.Norm(addr, n)
						if filter.In(near, p) != (n >= from && n <= to) || filter.In(near, p) && !filter.In(far, p) {
							t.Fatal(near, far, p)
						}
					}
				}
			}
		}
	}
}
