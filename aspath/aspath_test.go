package aspath_test

import (
	"bytes"
	"fmt"
	"math"
	"regexp"
	"slices"
	"strings"
	"testing"

	"speculum/api"
	"speculum/aspath"
)

type path = []api.Segment

func seq(as ...uint32) api.Segment { return api.Segment{Kind: api.Seq, AS: as} }

func set(as ...uint32) api.Segment { return api.Segment{Kind: api.Set, AS: as} }

// upTo is the numbers from 1 on.
func upTo(n int) []uint32 {
	var out []uint32
	for i := range n {
		out = append(out, uint32(i+1))
	}
	return out
}

// many is so many sets of one number each, which Norm leaves as they are.
func many(n int) path {
	var out path
	for i := range n {
		out = append(out, set(uint32(i)))
	}
	return out
}

// wrong is paths that are not right, each for one reason.
func wrong() []path {
	return []path{
		{seq()}, {set()}, {seq(1), seq()}, {set(), seq(1)}, {{Kind: api.Seq, AS: []uint32{}}},
		{{Kind: 0, AS: upTo(1)}}, {{Kind: 3, AS: upTo(1)}}, {{Kind: -1, AS: upTo(1)}}, {{Kind: 256 + api.Seq, AS: upTo(1)}}, {seq(1), {Kind: 4, AS: upTo(2)}},
		many(9), slices.Repeat(path{seq(1)}, 9), many(100),
		{seq(upTo(65)...)}, {set(upTo(65)...)}, {seq(upTo(64)...), seq(1)}, {seq(upTo(32)...), set(upTo(33)...)}, {seq(upTo(300)...)},
	}
}

// right is paths at the edges of what may be.
func right() []path {
	return []path{
		nil, {}, {seq(1)}, {set(1)}, {seq(0)}, {seq(math.MaxUint32)}, {seq(1, 2), set(3, 4)}, {set(1), set(1)}, {seq(1), seq(2)}, {seq(7, 7, 7)},
		many(8), slices.Repeat(path{seq(5)}, 8), {seq(upTo(64)...)}, {set(upTo(64)...)}, {seq(upTo(32)...), set(upTo(32)...)},
		append(slices.Repeat(path{set(1)}, 7), seq(upTo(57)...)), {seq(65535, 65536), set(23456, 70000), seq(1)},
	}
}

// odd is a source of numbers that are the same each time.
type odd uint64

func (x *odd) below(n int) int {
	*x ^= *x << 13
	*x ^= *x >> 7
	*x ^= *x << 17
	return int(uint64(*x) >> 11 % uint64(n))
}

func (x *odd) number() uint32 {
	near := []uint32{0, 1, 9, 10, 65534, 65535, 65536, 65537, api.Trans, math.MaxUint32}
	if x.below(3) == 0 {
		return near[x.below(len(near))]
	}
	return uint32(x.below(1<<32)) >> x.below(32)
}

// path is a right one of at most so many segments.
func (x *odd) path(most int) path {
	var out path
	for range x.below(most + 1) {
		s := api.Segment{Kind: 1 + x.below(2)}
		for range 1 + x.below(8) {
			s.AS = append(s.AS, x.number())
		}
		out = append(out, s)
	}
	return out
}

// paths goes over many right paths.
func paths(see func(x *odd, l path)) {
	x := odd(88172645463325252)
	for _, l := range right() {
		see(&x, l)
	}
	for range 3000 {
		see(&x, x.path(8))
	}
}

// P3.1

func TestRight(t *testing.T) {
	for _, l := range right() {
		if !aspath.Right(l) {
			t.Error(l)
		}
	}
	for _, l := range wrong() {
		if aspath.Right(l) {
			t.Error(l)
		}
	}
}

func TestCountFlat(t *testing.T) {
	for _, c := range []struct {
		l     path
		count int
		flat  []uint32
	}{
		{nil, 0, nil},
		{path{}, 0, nil},
		{path{seq(1, 2), set(3, 4)}, 3, []uint32{1, 2, 3, 4}},
		{path{set(4, 3, 4)}, 1, []uint32{4, 3, 4}},
		{path{set(1), set(2, 3), seq(4)}, 3, []uint32{1, 2, 3, 4}},
		{path{seq(1), seq(2, 3)}, 3, []uint32{1, 2, 3}},
		{path{seq(upTo(64)...)}, 64, upTo(64)},
		{path{set(upTo(64)...)}, 1, upTo(64)},
		// Of paths that are not right, too.
		{path{set()}, 1, nil},
		{path{seq()}, 0, nil},
		{path{seq(upTo(300)...)}, 300, upTo(300)},
		{path{{Kind: 7, AS: upTo(3)}, seq(9)}, 4, []uint32{1, 2, 3, 9}},
		{many(20), 20, aspath.Flat(many(20))},
	} {
		if n := aspath.Count(c.l); n != c.count {
			t.Error(c.l, n)
		}
		if got := aspath.Flat(c.l); !slices.Equal(got, c.flat) {
			t.Error(c.l, got)
		}
	}
}

func TestHasFirst(t *testing.T) {
	l := path{seq(5, 0), set(7, math.MaxUint32)}
	for as, want := range map[uint32]bool{5: true, 0: true, 7: true, math.MaxUint32: true, 1: false, 6: false} {
		if aspath.Has(l, as) != want {
			t.Error(as)
		}
	}
	if aspath.Has(nil, 0) || aspath.Has(path{seq(), set()}, 0) || !aspath.Has(path{{Kind: 9, AS: upTo(1)}}, 1) {
		t.Error("of none, of one that is not right")
	}
	for _, c := range []struct {
		l  path
		as uint32
		ok bool
	}{
		{l, 5, true}, {path{seq(0)}, 0, true}, {path{seq(3, 4)}, 3, true}, {path{seq(3), seq(4)}, 3, true},
		{nil, 0, false}, {path{}, 0, false}, {path{set(5)}, 0, false}, {path{set(5), seq(6)}, 0, false}, {path{seq(), seq(6)}, 0, false},
		{path{{Kind: 3, AS: upTo(2)}}, 0, false}, {path{{AS: upTo(2)}}, 0, false},
	} {
		if as, ok := aspath.First(c.l); as != c.as || ok != c.ok {
			t.Error(c.l, as, ok)
		}
	}
}

func TestSame(t *testing.T) {
	l := append(right()[2:], wrong()...)
	for i, a := range l {
		for j, b := range l {
			want := i == j || fmt.Sprint(a) == fmt.Sprint(b)
			if aspath.Same(a, b) != want {
				t.Error(a, b)
			}
		}
	}
	for _, c := range [][2]path{
		{{seq(1, 2)}, {seq(1), seq(2)}}, {{seq(1)}, {set(1)}}, {{set(1, 2)}, {set(2, 1)}}, {{seq(1)}, {seq(1), seq(1)}}, {{seq(1, 2)}, {seq(1)}}, {nil, {seq()}}, {{seq(1)}, {{Kind: 3, AS: upTo(1)}}},
	} {
		if aspath.Same(c[0], c[1]) || aspath.Same(c[1], c[0]) {
			t.Error(c)
		}
	}
	// Rule 3: nil and empty are one.
	if !aspath.Same(nil, path{}) || !aspath.Same(path{seq()}, path{{Kind: api.Seq, AS: []uint32{}}}) {
		t.Error("nil and empty")
	}
}

// P3.2

func TestNorm(t *testing.T) {
	for _, c := range []struct{ l, want path }{
		{nil, nil}, {path{}, nil}, {path{seq(1, 2)}, path{seq(1, 2)}},
		{path{seq(1), seq(2, 3), seq(4)}, path{seq(1, 2, 3, 4)}},
		{path{seq(1), seq(2), set(3), seq(4), seq(5)}, path{seq(1, 2), set(3), seq(4, 5)}},
		{path{set(1), set(2)}, path{set(1), set(2)}},
		{path{set(1), seq(2), set(3), seq(4)}, path{set(1), seq(2), set(3), seq(4)}},
		{slices.Repeat(path{seq(5)}, 9), path{seq(5, 5, 5, 5, 5, 5, 5, 5, 5)}},
		{path{seq(upTo(64)...), seq(65)}, path{seq(upTo(65)...)}},
		{path{seq(), seq(1), seq()}, path{seq(1)}},
		{path{{Kind: 3, AS: upTo(1)}, {Kind: 3, AS: upTo(2)}, seq(1), {Kind: 0}, seq(2)}, path{{Kind: 3, AS: upTo(1)}, {Kind: 3, AS: upTo(2)}, seq(1), {Kind: 0}, seq(2)}},
	} {
		if got := aspath.Norm(c.l); !aspath.Same(got, c.want) {
			t.Error(c.l, got)
		}
	}
}

func TestPrepend(t *testing.T) {
	for _, c := range []struct {
		l    path
		want path
		e    api.Errno
	}{
		{nil, path{seq(9)}, api.OK},
		{path{seq(1, 2)}, path{seq(9, 1, 2)}, api.OK},
		{path{seq(1), seq(2)}, path{seq(9, 1), seq(2)}, api.OK},
		{path{set(1, 2)}, path{seq(9), set(1, 2)}, api.OK},
		{path{set(1), seq(2)}, path{seq(9), set(1), seq(2)}, api.OK},
		{many(7), append(path{seq(9)}, many(7)...), api.OK},
		{many(8), nil, api.EFULL},
		{append(path{seq(1)}, many(7)...), append(path{seq(9, 1)}, many(7)...), api.OK},
		{path{seq(upTo(63)...)}, path{seq(append([]uint32{9}, upTo(63)...)...)}, api.OK},
		{path{seq(upTo(64)...)}, nil, api.EFULL},
		{path{set(upTo(63)...)}, path{seq(9), set(upTo(63)...)}, api.OK},
		{path{set(upTo(64)...)}, nil, api.EFULL},
		{path{seq(1), set(upTo(63)...)}, nil, api.EFULL},
	} {
		if got, e := aspath.Prepend(c.l, 9); e != c.e || !aspath.Same(got, c.want) {
			t.Error(c.l, got, e)
		}
	}
	for _, l := range wrong() {
		if got, e := aspath.Prepend(l, 9); e != api.EARG || len(got) != 0 {
			t.Error(l, got, e)
		}
	}
	for _, as := range []uint32{0, 65535, 65536, math.MaxUint32} {
		if got, e := aspath.Prepend(nil, as); e != api.OK || !aspath.Same(got, path{seq(as)}) {
			t.Error(as, got, e)
		}
	}
}

// P3.3

func TestText(t *testing.T) {
	for s, l := range map[string]path{
		"":                   nil,
		"1":                  {seq(1)},
		"1 2 {3,4}":          {seq(1, 2), set(3, 4)},
		"{3}":                {set(3)},
		"{4,3,4}":            {set(4, 3, 4)},
		"{1} {2} 3 {4}":      {set(1), set(2), seq(3), set(4)},
		"0 4294967295 65536": {seq(0, math.MaxUint32, 65536)},
		"{0,4294967295}":     {set(0, math.MaxUint32)},
	} {
		if got := aspath.Text(l); got != s {
			t.Errorf("%v: %q", l, got)
		}
		if got, ok := aspath.Parse(s); !ok || !aspath.Same(got, l) {
			t.Errorf("%q: %v, %v", s, got, ok)
		}
	}
	if s := aspath.Text(path{seq(1), seq(2, 3), set(4), seq(5), seq(6)}); s != "1 2 3 {4} 5 6" {
		t.Error(s)
	}
	for _, l := range wrong() {
		if s := aspath.Text(l); s != "" {
			t.Errorf("%v: %q", l, s)
		}
	}
}

// words is numbers from 1 on as a text.
func words(n int, between string) string {
	var out []string
	for _, as := range upTo(n) {
		out = append(out, fmt.Sprint(as))
	}
	return strings.Join(out, between)
}

func TestParseEdges(t *testing.T) {
	sets := slices.Repeat([]string{"{1}"}, 9)
	for s, want := range map[string]bool{
		words(64, " "): true, words(65, " "): false, "{" + words(64, ",") + "}": true, "{" + words(65, ",") + "}": false,
		words(63, " ") + " {1}": true, words(64, " ") + " {1}": false,
		strings.Join(sets[:8], " "): true, strings.Join(sets, " "): false,
		"1 " + strings.Join(sets[:7], " "): true, "1 " + strings.Join(sets[:8], " "): false,
		// As one Seq these are a single segment.
		strings.Repeat("1 ", 20) + "1": true,
		"4294967295":                   true, "4294967296": false, "{4294967296}": false, "99999999999999999999": false,
	} {
		if l, ok := aspath.Parse(s); ok != want || ok && (aspath.Text(l) != s || !aspath.Same(aspath.Norm(l), l)) || !ok && len(l) != 0 {
			t.Errorf("%q: %v, %v", s, l, ok)
		}
	}
}

func TestParseRefuses(t *testing.T) {
	for _, s := range []string{
		" ", "  ", " 1", "1 ", "1  2", "1\t2", "1\n", "01", "00", "-1", "+1", "1,2", "1, 2", "a", "1a", "0x1", "{", "}", "{}", "{ }", "{1", "1}", "{1}}", "{{1}", "{{1}}", "}1{",
		"{1 2}", "{1, 2}", "{1 ,2}", "{,}", "{1,}", "{,1}", "{1,,2}", "{1}2", "1{2}", "{1}{2}", "{1} ", " {1}", "{1}  {2}", "{01}", "{-1}", "(1)", "[1]", "1.2", "1 {2} ", "\x00", "1\x002", "\xff", "1\xff2", "1\u00a02", "\u0661", "{1\u201a2}", "{1\xff}", "\uff5b1}",
	} {
		if l, ok := aspath.Parse(s); ok || len(l) != 0 {
			t.Errorf("%q: %v, %v", s, l, ok)
		}
	}
}

// Every short text of the signs of paths is held against a pattern of those that are one.
func TestParseTakesJustTexts(t *testing.T) {
	number := `(0|[1-9][0-9]*)`
	part := `(` + number + `|\{` + number + `(,` + number + `)*\})`
	one := regexp.MustCompile(`^(` + part + `( ` + part + `)*)?$`)
	level := []string{""}
	for range 7 {
		var longer []string
		for _, s := range level {
			l, ok := aspath.Parse(s)
			if ok != one.MatchString(s) || ok && aspath.Text(l) != s || ok && !aspath.Same(aspath.Norm(l), l) || !ok && len(l) != 0 {
				t.Fatalf("%q: %v, %v", s, l, ok)
			}
			for _, sign := range "{}, 01x" {
				longer = append(longer, s+string(sign))
			}
		}
		level = longer
	}
}

// P3.4

func TestPut(t *testing.T) {
	for _, c := range []struct {
		l            path
		wide, narrow string
	}{
		{nil, "", ""},
		{path{seq(1, 2), set(3)}, "\x02\x02\x00\x00\x00\x01\x00\x00\x00\x02\x01\x01\x00\x00\x00\x03", "\x02\x02\x00\x01\x00\x02\x01\x01\x00\x03"},
		{path{seq(65535, 65536)}, "\x02\x02\x00\x00\xff\xff\x00\x01\x00\x00", "\x02\x02\xff\xff\x5b\xa0"},
		{path{set(0, math.MaxUint32, api.Trans)}, "\x01\x03\x00\x00\x00\x00\xff\xff\xff\xff\x00\x00\x5b\xa0", "\x01\x03\x00\x00\x5b\xa0\x5b\xa0"},
		{path{seq(1), seq(2)}, "\x02\x01\x00\x00\x00\x01\x02\x01\x00\x00\x00\x02", "\x02\x01\x00\x01\x02\x01\x00\x02"},
		// Of paths that are not right, too.
		{path{seq(), set()}, "\x02\x00\x01\x00", "\x02\x00\x01\x00"},
		{path{{Kind: 259, AS: upTo(1)}, {Kind: -1}}, "\x03\x01\x00\x00\x00\x01\xff\x00", "\x03\x01\x00\x01\xff\x00"},
	} {
		if b := aspath.Put(c.l, true); string(b) != c.wide {
			t.Errorf("%v wide: %x", c.l, b)
		}
		if b := aspath.Put(c.l, false); string(b) != c.narrow {
			t.Errorf("%v narrow: %x", c.l, b)
		}
	}
	b := aspath.Put(path{seq(upTo(258)...)}, false)
	if len(b) != 2+2*258 || b[0] != 2 || b[1] != 2 || b[2] != 0 || b[3] != 1 || b[516] != 1 || b[517] != 2 {
		t.Errorf("258 numbers: %x", b)
	}
}

func TestRead(t *testing.T) {
	for _, c := range []struct {
		b    string
		wide bool
		want path
		e    api.Errno
	}{
		{"", true, nil, api.OK},
		{"", false, nil, api.OK},
		{"\x02\x01\x00\x00\x00\x01", true, path{seq(1)}, api.OK},
		{"\x02\x02\x00\x00\x00\x01", false, path{seq(0, 1)}, api.OK},
		{"\x01\x02\x5b\xa0\xff\xff\x02\x01\x00\x01", false, path{set(api.Trans, 65535), seq(1)}, api.OK},
		{"\x02\x01\x00\x01\x02\x01\x00\x02", false, path{seq(1), seq(2)}, api.OK},
		{"\x01\x01\xff\xff\xff\xff", true, path{set(math.MaxUint32)}, api.OK},
		// Kinds that are none, no number, too few bytes, too many.
		{"\x00\x01\x00\x01", false, nil, api.EFORM},
		{"\x03\x01\x00\x01", false, nil, api.EFORM},
		{"\xff\x01\x00\x01", false, nil, api.EFORM},
		{"\x02\x01\x00\x01\x04\x01\x00\x01", false, nil, api.EFORM},
		{"\x02\x00", false, nil, api.EFORM},
		{"\x02\x01\x00\x01\x01\x00", false, nil, api.EFORM},
		{"\x02", false, nil, api.EFORM},
		{"\x02\x01", false, nil, api.EFORM},
		{"\x02\x01\x00", false, nil, api.EFORM},
		{"\x02\x02\x00\x01", false, nil, api.EFORM},
		{"\x02\x01\x00\x00\x00", true, nil, api.EFORM},
		{"\x02\x01\x00\x00\x00\x01\x02", true, nil, api.EFORM},
		{"\x02\x01\x00\x01\x00", false, nil, api.EFORM},
		// Wide bytes read as narrow ones, and the other way round.
		{"\x02\x01\x00\x00\x00\x01", false, nil, api.EFORM},
		{"\x02\x01\x00\x01", true, nil, api.EFORM},
		{"\x02\xff\x00\x01", false, nil, api.EFORM},
	} {
		if l, e := aspath.Read([]byte(c.b), c.wide); e != c.e || !aspath.Same(l, c.want) {
			t.Errorf("%x: %v, %d", c.b, l, e)
		}
	}
}

// What is read are the bytes of right paths, and of no others.
func TestReadEdges(t *testing.T) {
	for _, wide := range []bool{false, true} {
		for _, l := range right() {
			b := aspath.Put(l, wide)
			got, e := aspath.Read(b, wide)
			if e != api.OK || !bytes.Equal(aspath.Put(got, wide), b) || len(got) != len(l) || wide && !aspath.Same(got, l) {
				t.Error(l, wide, got, e)
			}
		}
		for _, l := range wrong() {
			if len(l) == 1 && l[0].Kind == 256+api.Seq {
				continue // its bytes are those of a right one
			}
			if got, e := aspath.Read(aspath.Put(l, wide), wide); e != api.EFORM || len(got) != 0 {
				t.Error(l, wide, got, e)
			}
		}
	}
}

// All short bytes: those that are read are put again, and each that a right path puts is read.
func TestReadTakesJustWhatIsPut(t *testing.T) {
	put := map[string]bool{"": true}
	for _, kind := range []int{api.Set, api.Seq} {
		for n := range 4 {
			for as := range 1 << (4 * n) { // of each number both bytes are from 0 to 3
				s := api.Segment{Kind: kind}
				for i := range n {
					s.AS = append(s.AS, uint32(as>>(4*i)&3)<<8|uint32(as>>(4*i+2)&3))
				}
				if n > 0 {
					put[string(aspath.Put(path{s}, false))] = true
				}
			}
		}
	}
	level := []string{""}
	for range 9 {
		var longer []string
		for _, b := range level {
			l, e := aspath.Read([]byte(b), false)
			if (e == api.OK) != (aspath.Right(l) && string(aspath.Put(l, false)) == b) || e != api.OK && (e != api.EFORM || len(l) != 0) {
				t.Fatalf("%x: %v, %d", b, l, e)
			}
			if len(l) < 2 && (e == api.OK) != put[b] {
				t.Fatalf("%x: %v, %d, but put: %v", b, l, e, put[b])
			}
			for c := range 4 {
				longer = append(longer, b+string([]byte{byte(c)}))
			}
		}
		level = longer
	}
}

// P3.5

func TestMerge(t *testing.T) {
	for _, c := range []struct{ l, more, want path }{
		// As it is sent: the wide path stands whole beside the narrow one.
		{path{seq(1, api.Trans, 3)}, path{seq(1, 70000, 3)}, path{seq(1, 70000, 3)}},
		// Those that know no wide numbers came ahead since.
		{path{seq(8, 9, 1, api.Trans)}, path{seq(1, 70000)}, path{seq(8, 9), seq(1, 70000)}},
		{path{seq(8), seq(9, 1), seq(2)}, path{seq(70000, 2)}, path{seq(8), seq(9), seq(70000, 2)}},
		{path{seq(8), seq(9), seq(1, 2)}, path{seq(70000, 2)}, path{seq(8), seq(9), seq(70000, 2)}},
		{path{set(5, 6), seq(1, 2)}, path{seq(70000, 2)}, path{set(5, 6), seq(70000, 2)}},
		{path{seq(1), set(5, 6), seq(2)}, path{seq(70000)}, path{seq(1), set(5, 6), seq(70000)}},
		{path{seq(1, 2), set(3, 4)}, path{set(70000, 3, 4)}, path{seq(1, 2), set(70000, 3, 4)}},
		{path{seq(1, 2), set(3, 4)}, path{seq(70000)}, path{seq(1, 2), seq(70000)}},
		{path{seq(1, 2), set(3, 4)}, path{seq(7), seq(8)}, path{seq(1), seq(7), seq(8)}},
		// As much, more, nothing.
		{path{seq(1, 2)}, path{set(3), set(4)}, path{set(3), set(4)}},
		{path{seq(1, 2)}, path{seq(3, 4, 5)}, path{seq(1, 2)}},
		{path{set(1, 2, 3)}, path{seq(3, 4)}, path{set(1, 2, 3)}},
		{path{seq(1), set(1, 2, 3)}, path{set(7, 8, 9, 10), seq(5)}, path{set(7, 8, 9, 10), seq(5)}},
		{path{seq(1, 2)}, nil, path{seq(1, 2)}},
		{path{seq(1), seq(2)}, path{}, path{seq(1), seq(2)}},
		{nil, path{seq(1)}, nil},
		{nil, nil, nil},
		// What would not be right: 9 segments, 65 numbers; and just what is.
		{many(8), path{seq(1), seq(2)}, append(many(6), seq(1), seq(2))},
		{append(many(7), seq(1, 2, 3)), path{seq(5)}, append(many(7), seq(1, 2, 3))},
		{append(many(6), seq(1, 2, 3)), path{seq(5)}, append(many(6), seq(1, 2), seq(5))},
		{path{seq(upTo(64)...)}, path{set(1, 2)}, path{seq(upTo(64)...)}},
		{path{seq(upTo(63)...)}, path{set(1, 2)}, path{seq(upTo(62)...), set(1, 2)}},
		{path{seq(upTo(64)...)}, path{seq(5)}, path{seq(upTo(63)...), seq(5)}},
	} {
		if got := aspath.Merge(c.l, c.more); !aspath.Same(got, c.want) {
			t.Error(c.l, c.more, got)
		}
	}
	for _, w := range wrong() {
		for _, l := range append(right(), wrong()...) {
			if got := aspath.Merge(l, w); !aspath.Same(got, l) {
				t.Error(l, "with one that is not right", w, got)
			}
			if got := aspath.Merge(w, l); !aspath.Same(got, w) {
				t.Error(w, "is not right", l, got)
			}
		}
	}
}

// unit is what counts 1: a whole set, or a number of a sequence, and the segment that it is of.
type unit struct {
	of int
	s  api.Segment
}

func units(l path) []unit {
	var out []unit
	for i, s := range l {
		if s.Kind == api.Set {
			out = append(out, unit{i, s})
			continue
		}
		for _, as := range s.AS {
			out = append(out, unit{i, seq(as)})
		}
	}
	return out
}

// together puts units of one segment together again.
func together(l []unit) path {
	var out path
	for i, u := range l {
		if i > 0 && l[i-1].of == u.of {
			last := &out[len(out)-1]
			last.AS = append(slices.Clone(last.AS), u.s.AS...)
		} else {
			out = append(out, u.s)
		}
	}
	return out
}

// Merge is held against its words, spelt out by what counts 1.
func TestMergeByUnits(t *testing.T) {
	changed := 0
	paths(func(x *odd, l path) {
		more := x.path(3)
		want := l
		if ahead := aspath.Count(l) - aspath.Count(more); ahead >= 0 && len(more) > 0 {
			if whole := append(together(units(l)[:ahead]), more...); aspath.Right(whole) {
				want = whole
				changed++
			}
		}
		got := aspath.Merge(l, more)
		if !aspath.Same(got, want) {
			t.Fatal(l, more, got, want)
		}
		if aspath.Count(got) != aspath.Count(l) || !aspath.Right(got) {
			t.Fatal(l, more, "count", got)
		}
	})
	if changed < 500 {
		t.Error("too few paths were merged", changed)
	}
}

// P3.6

func TestWhatIsPutIsRead(t *testing.T) {
	paths(func(_ *odd, l path) {
		if got, e := aspath.Read(aspath.Put(l, true), true); e != api.OK || !aspath.Same(got, l) {
			t.Fatal(l, got, e)
		}
		got, e := aspath.Read(aspath.Put(l, false), false)
		if e != api.OK || aspath.Count(got) != aspath.Count(l) {
			t.Fatal(l, got, e)
		}
		flat := aspath.Flat(l)
		for i, as := range aspath.Flat(got) {
			if as != flat[i] && (as != api.Trans || flat[i] < 65536) {
				t.Fatal(l, got)
			}
		}
		if back := aspath.Merge(got, l); !aspath.Same(back, l) {
			t.Fatal(l, got, back)
		}
		whole, ok := aspath.Parse(aspath.Text(l))
		if !ok || !aspath.Same(whole, aspath.Norm(l)) {
			t.Fatal(l, whole, ok)
		}
	})
}

func TestPrependCountsOneMore(t *testing.T) {
	full := 0
	paths(func(x *odd, l path) {
		as := x.number()
		got, e := aspath.Prepend(l, as)
		if e == api.EFULL {
			full++
			return
		}
		first, ok := aspath.First(got)
		if e != api.OK || !ok || first != as || aspath.Count(got) != aspath.Count(l)+1 || !aspath.Has(got, as) || !slices.Equal(aspath.Flat(got)[1:], aspath.Flat(l)) {
			t.Fatal(l, as, got, e)
		}
	})
	if full == 0 {
		t.Error("no path was full")
	}
}

// Rules

// deep is a path with room behind each of its lists, in which something lies.
func deep() path {
	rooms := [][]uint32{{1, 2, 91, 92}, {3, 93, 94}}
	l := path{{Kind: api.Seq, AS: rooms[0][:2]}, {Kind: api.Seq, AS: rooms[1][:1]}, {Kind: 77, AS: rooms[1]}}
	return l[:2]
}

// Rule 4: neither what is handed in is changed, nor the room behind it; and no answer hangs together with it.
func TestNothingIsChanged(t *testing.T) {
	calls := map[string]func(l path) path{
		"Norm":         aspath.Norm,
		"Prepend":      func(l path) path { out, _ := aspath.Prepend(l, 9); return out },
		"Merge":        func(l path) path { return aspath.Merge(l, path{seq(70000)}) },
		"Merge ahead":  func(l path) path { return aspath.Merge(path{seq(9, 9, 9, 9)}, l) },
		"Merge of all": func(l path) path { return aspath.Merge(l, nil) },
		"Text":         func(l path) path { aspath.Text(l); return nil },
		"Put":          func(l path) path { aspath.Put(l, true); aspath.Put(l, false); return nil },
		"Flat":         func(l path) path { return path{seq(aspath.Flat(l)...)} },
	}
	for name, call := range calls {
		l := deep()
		for _, s := range call(l) {
			for i := range s.AS {
				s.AS[i] = 1000
			}
			_ = append(s.AS, 1000, 1000)
		}
		whole := l[:3]
		if fmt.Sprint(whole) != fmt.Sprint(deep()[:3]) || fmt.Sprint(whole[0].AS[:4]) != "[1 2 91 92]" || fmt.Sprint(whole[1].AS[:3]) != "[3 93 94]" {
			t.Error(name, "changes", whole)
		}
	}
	b := []byte{2, 1, 0, 1, 2, 1, 0, 2}
	first, _ := aspath.Read(b[:4], false)
	if !aspath.Same(first, path{seq(1)}) || string(b) != "\x02\x01\x00\x01\x02\x01\x00\x02" {
		t.Error("Read", first, b)
	}
}

// Rule 6: at whatever bytes and texts, every call ends.
func TestWhateverComes(t *testing.T) {
	x := odd(2463534242)
	for range 20000 {
		b := make([]byte, x.below(40))
		for i := range b {
			b[i] = byte(x.below(256) >> x.below(8))
		}
		for _, wide := range []bool{false, true} {
			if l, e := aspath.Read(b, wide); e == api.OK && (!aspath.Right(l) || !bytes.Equal(aspath.Put(l, wide), b)) || e != api.OK && (e != api.EFORM || len(l) != 0) {
				t.Fatalf("%x: %v, %d", b, l, e)
			}
		}
		if l, ok := aspath.Parse(string(b)); ok && aspath.Text(l) != string(b) {
			t.Fatalf("%q: %v", b, l)
		}
	}
}
