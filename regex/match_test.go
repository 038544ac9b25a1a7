package regex_test

import (
	"math"
	"slices"
	"strings"
	"testing"

	"speculum/regex"
)

// P11.2

const greatest = math.MaxUint32

// cases is a pattern, lists that it matches, and lists that it does not.
type cases struct {
	s       string
	yes, no [][]uint32
}

func checked(t *testing.T, list []cases) {
	t.Helper()
	for _, c := range list {
		e := parse(t, c.s)
		for _, l := range c.yes {
			if !e.Match(l) {
				t.Errorf("%q does not match %v", c.s, l)
			}
		}
		for _, l := range c.no {
			if e.Match(l) {
				t.Errorf("%q matches %v", c.s, l)
			}
		}
	}
}

func TestMatchOfAtoms(t *testing.T) {
	checked(t, []cases{
		{"1 (2|3)*$", [][]uint32{{9, 1, 2, 3}, {1}, {9, 1}, {1, 4, 1, 3}}, [][]uint32{{1, 4}, nil, {1, 2, 3, 4}}},
		{"7", [][]uint32{{7}, {1, 7}, {7, 1}, {1, 7, 1}}, [][]uint32{nil, {}, {6}, {77}, {1, 2, 3}, {7 + 1<<16}}},
		{"0", [][]uint32{{0}, {1, 0}}, [][]uint32{nil, {1}, {greatest}}},
		{"4294967295", [][]uint32{{greatest}}, [][]uint32{{greatest - 1}, {0}, {math.MaxInt32}}},
		{".", [][]uint32{{0}, {5}, {greatest}, {1, 2}}, [][]uint32{nil, {}}},
		{"..", [][]uint32{{1, 2}, {1, 2, 3}}, [][]uint32{nil, {1}}},
		{"", [][]uint32{nil, {}, {1}, {1, 2}}, nil},
		{" _ ", [][]uint32{nil, {1}}, nil},
		{"()", [][]uint32{nil, {1}}, nil},
		{"|1", [][]uint32{nil, {2}}, nil},
		// What is taken follows one another.
		{"1 2", [][]uint32{{1, 2}, {0, 1, 2, 3}, {1, 1, 2}}, [][]uint32{{1}, {2}, {2, 1}, {1, 3, 2}, {12}}},
		{"1_2", [][]uint32{{1, 2}}, [][]uint32{{12}, {1, 3, 2}}},
		{"12", [][]uint32{{12}}, [][]uint32{{1, 2}, {1}, {2}}},
		{"1 . 3", [][]uint32{{1, 2, 3}, {1, 3, 3}, {1, 1, 3}}, [][]uint32{{1, 3}, {1, 2, 2, 3}}},
		// A part of it that begins too early does not hide the right one.
		{"1 1 2", [][]uint32{{1, 1, 1, 2}}, [][]uint32{{1, 2, 1, 2}}},
		{"1 2 1 3", [][]uint32{{1, 2, 1, 2, 1, 3}}, [][]uint32{{1, 2, 1, 2, 3}}},
	})
}

func TestMatchOfPlaces(t *testing.T) {
	checked(t, []cases{
		{"^", [][]uint32{nil, {1}}, nil},
		{"$", [][]uint32{nil, {1}}, nil},
		{"^$", [][]uint32{nil, {}}, [][]uint32{{1}, {0}}},
		{"$^", [][]uint32{nil}, [][]uint32{{1}}},
		{"^^$$", [][]uint32{nil}, [][]uint32{{1}}},
		{"^1", [][]uint32{{1}, {1, 2}}, [][]uint32{nil, {2, 1}}},
		{"1$", [][]uint32{{1}, {2, 1}}, [][]uint32{nil, {1, 2}}},
		{"^1$", [][]uint32{{1}}, [][]uint32{nil, {1, 1}, {2, 1}, {1, 2}}},
		{"^^1$$", [][]uint32{{1}}, [][]uint32{{1, 1}}},
		{"^.$", [][]uint32{{5}}, [][]uint32{nil, {5, 6}}},
		// Behind a number there is no first place, ahead of one no end.
		{"1^", nil, [][]uint32{nil, {1}, {1, 1}, {2, 1}}},
		{"$1", nil, [][]uint32{nil, {1}, {1, 1}}},
		{"1^2", nil, [][]uint32{{1, 2}}},
		{"1$2", nil, [][]uint32{{1, 2}}},
		// But what stands there may take nothing.
		{"1*^2", [][]uint32{{2}, {2, 1}}, [][]uint32{{1, 2}, nil}},
		{"2$1*", [][]uint32{{2}, {1, 2}}, [][]uint32{{2, 1}, nil}},
		{"1?^", [][]uint32{nil, {1}, {2}}, nil},
		{"(1|^)2", [][]uint32{{2}, {3, 1, 2}, {1, 2}}, [][]uint32{{3, 2}, {1}}},
		{"1(2|$)", [][]uint32{{1}, {1, 2, 3}, {3, 1}}, [][]uint32{{1, 3}, {2}}},
		{"^1|2$", [][]uint32{{1, 3}, {3, 2}, {1}, {2}}, [][]uint32{{3, 1}, {2, 3}, nil}},
		{"(^1|2)3$", [][]uint32{{1, 3}, {1, 2, 3}}, [][]uint32{{2, 1, 3}, {1, 3, 3}}},
		{"^*1", [][]uint32{{1}, {2, 1}}, [][]uint32{{2}}},
		{"^?1", [][]uint32{{1}, {2, 1}}, nil},
		{"^+1", [][]uint32{{1}, {1, 2}}, [][]uint32{{2, 1}}},
		{"1$+", [][]uint32{{1}, {2, 1}}, [][]uint32{{1, 2}}},
		{"1$*2", [][]uint32{{1, 2}}, [][]uint32{{1}, {2}}},
		{"(^1)*2", [][]uint32{{1, 2}, {2}, {3, 2}}, nil},
		{"^(^1)*2$", [][]uint32{{1, 2}, {2}}, [][]uint32{{1, 1, 2}, {3, 2}}},
		{"(1$)+", [][]uint32{{1}, {1, 1}}, [][]uint32{{1, 2}}},
		{"^(1$)+$", [][]uint32{{1}}, [][]uint32{{1, 1}}},
	})
}

func TestMatchOfRepeats(t *testing.T) {
	checked(t, []cases{
		{"^1*$", [][]uint32{nil, {1}, {1, 1, 1}}, [][]uint32{{2}, {1, 2}, {2, 1}, {1, 2, 1}}},
		{"^1+$", [][]uint32{{1}, {1, 1, 1}}, [][]uint32{nil, {2}, {1, 2}}},
		{"^1?$", [][]uint32{nil, {1}}, [][]uint32{{1, 1}, {2}}},
		{"^1? 1$", [][]uint32{{1}, {1, 1}}, [][]uint32{nil, {1, 1, 1}}},
		{"^1* 1 1$", [][]uint32{{1, 1}, {1, 1, 1, 1}}, [][]uint32{nil, {1}}},
		{"1+", [][]uint32{{1}, {2, 1}}, [][]uint32{nil, {2}}},
		// A repeat belongs to what it stands behind alone, blanks or not.
		{"^1 2*$", [][]uint32{{1}, {1, 2}, {1, 2, 2}}, [][]uint32{nil, {2}, {1, 2, 1, 2}}},
		{"^1 2 _ *$", [][]uint32{{1}, {1, 2, 2}}, [][]uint32{nil, {1, 2, 1, 2}}},
		{"^(1 2)*$", [][]uint32{nil, {1, 2}, {1, 2, 1, 2}}, [][]uint32{{1}, {1, 2, 2}, {1, 2, 1}}},
		{"^(1 2)+$", [][]uint32{{1, 2}, {1, 2, 1, 2}}, [][]uint32{nil, {1}}},
		{"^(1|2 3)+$", [][]uint32{{1}, {2, 3}, {2, 3, 1, 2, 3}}, [][]uint32{nil, {2}, {1, 2}}},
		{"^.*$", [][]uint32{nil, {1}, {1, 2, 3}}, nil},
		{"^[1 2]+ 3$", [][]uint32{{1, 3}, {2, 1, 3}}, [][]uint32{{3}, {1, 4, 3}}},
		// More than one.
		{"^1**$", [][]uint32{nil, {1, 1}}, [][]uint32{{2}}},
		{"^1+*$", [][]uint32{nil, {1}, {1, 1}}, [][]uint32{{2}}},
		{"^1?+$", [][]uint32{nil, {1}, {1, 1, 1}}, [][]uint32{{2}}},
		{"^1+?$", [][]uint32{nil, {1}, {1, 1}}, [][]uint32{{2}}},
		{"^1++$", [][]uint32{{1}, {1, 1}}, [][]uint32{nil, {2}}},
		{"^1??$", [][]uint32{nil, {1}}, [][]uint32{{1, 1}}},
		{"^((1+ 2?)* 3)+$", [][]uint32{{3}, {1, 3}, {1, 1, 2, 1, 3, 3}}, [][]uint32{nil, {2, 3}, {3, 1}, {1, 2, 2, 3}}},
		{"^((1|2)*(3|4)+)?5$", [][]uint32{{5}, {3, 5}, {1, 2, 4, 5}}, [][]uint32{{1, 5}, {5, 5}}},
		{"^(((1)*)*)* 2$", [][]uint32{{2}, {1, 2}, {1, 1, 1, 2}}, [][]uint32{{1}, {3, 2}}},
		// What takes nothing, repeated.
		{"^()*$", [][]uint32{nil}, [][]uint32{{1}}},
		{"^()+1$", [][]uint32{{1}}, [][]uint32{nil, {2}}},
		{"^(|)+*?1$", [][]uint32{{1}}, [][]uint32{nil}},
		{"^(|1)*2$", [][]uint32{{2}, {1, 1, 2}}, [][]uint32{{3, 2}}},
		{"^(1?)*2$", [][]uint32{{2}, {1, 1, 2}}, [][]uint32{{3, 2}}},
		{"^(1*)+2$", [][]uint32{{2}, {1, 1, 2}}, [][]uint32{{3, 2}, {1}}},
		{"^(1* 2*)+$", [][]uint32{nil, {2, 1, 1, 2}}, [][]uint32{{3}}},
		{"^(()|1 ())+2", [][]uint32{{2}, {1, 1, 2}}, [][]uint32{{3, 2}}},
		{"(^)*1", [][]uint32{{1}, {2, 1}}, nil},
		{"(^)+1", [][]uint32{{1}}, [][]uint32{{2, 1}}},
		{"(^|1)+2", [][]uint32{{2}, {1, 2}, {3, 1, 2}}, [][]uint32{{3, 2}}},
		{"(^$)*1", [][]uint32{{1}, {2, 1}}, [][]uint32{nil}},
		{"(^$)+", [][]uint32{nil}, [][]uint32{{1}}},
		{"(1|$)+$", [][]uint32{nil, {1}, {2}}, nil},
	})
}

func TestMatchOfSets(t *testing.T) {
	checked(t, []cases{
		{"[5]", [][]uint32{{5}, {1, 5}}, [][]uint32{nil, {4}, {6}}},
		{"[1 3,7]", [][]uint32{{1}, {3}, {7}}, [][]uint32{nil, {2}, {13}, {37}, {137}, {0}}},
		{"[10-20]", [][]uint32{{10}, {15}, {20}}, [][]uint32{{9}, {21}, {1}, {2}}},
		{"[7-7]", [][]uint32{{7}}, [][]uint32{{6}, {8}}},
		{"[0-4294967295]", [][]uint32{{0}, {7}, {greatest}}, [][]uint32{nil}},
		{"[4294967295]", [][]uint32{{greatest}}, [][]uint32{{greatest - 1}, {0}}},
		{"[2147483647-2147483648]", [][]uint32{{1<<31 - 1}, {1 << 31}}, [][]uint32{{1<<31 - 2}, {1<<31 + 1}}},
		{"[20-30,1-3 _ 25-27,9]", [][]uint32{{1}, {2}, {3}, {9}, {20}, {26}, {30}}, [][]uint32{{0}, {4}, {8}, {10}, {19}, {31}}},
		{"[^5]", [][]uint32{{4}, {6}, {0}, {greatest}, {5, 6}}, [][]uint32{nil, {5}, {5, 5}}},
		{"[ _^ , 5 , 7-9]", [][]uint32{{4}, {6}, {10}}, [][]uint32{nil, {5}, {7}, {8}, {9}, {5, 8}}},
		{"[^0-4294967295]", nil, [][]uint32{nil, {0}, {1}, {greatest}}},
		{"[^1]$", [][]uint32{{2}, {1, 2}}, [][]uint32{nil, {1}, {2, 1}}},
		{"^[^1]*$", [][]uint32{nil, {2}, {2, 3}}, [][]uint32{{1}, {2, 1}}},
		{"^[1-2][3-4]$", [][]uint32{{1, 3}, {2, 4}}, [][]uint32{{1}, {3, 1}, {1, 2}}},
	})
}

func TestMatchOfNone(t *testing.T) {
	var none *regex.Expr
	if none.Match(nil) || none.Match([]uint32{}) || none.Match([]uint32{1}) {
		t.Error("a nil pattern matches")
	}
	// One that no call made has the empty text, and matches as that does.
	e := new(regex.Expr)
	if e.Text() != "" || e.Size() != 0 || !e.Match(nil) || !e.Match([]uint32{1, 2}) {
		t.Error("a pattern that no call made")
	}
}

// Rules 3 and 4: nil and empty lists are one; a list stays as it is, and so does what lies behind its end.
func TestMatchLeavesLists(t *testing.T) {
	whole := []uint32{1, 2, 3, 4}
	for _, s := range []string{"", "^$", "1 2$", ".*", "(1|2)+3", "[^4]*$", "^"} {
		e := parse(t, s)
		if e.Match(nil) != e.Match([]uint32{}) || e.Match(nil) != e.Match(whole[2:2]) {
			t.Errorf("%q tells nil and empty apart", s)
		}
		if e.Match(whole[:2]) != e.Match([]uint32{1, 2}) {
			t.Errorf("%q looks behind the end", s)
		}
		if !slices.Equal(whole, []uint32{1, 2, 3, 4}) {
			t.Fatal(s, whole)
		}
	}
}

// Rule 6: whatever is repeated within what, no call goes through a long list again and again.
func TestMatchEnds(t *testing.T) {
	long := slices.Repeat([]uint32{1}, 20000)
	last := append(slices.Clone(long), 2)
	for _, s := range []string{
		"^(1*)*$", "^((1*)*)*3", "(1+)+3", "(1|1)*3", "((1?)+)+3", "(1 1|1)*3", "(.*)*3$", "^(.*1)*3", "(|1|1 1)+3",
		"^" + strings.Repeat("(", 32) + "1" + strings.Repeat("*)", 32) + "3",
		"^" + strings.Repeat("1?", 49) + "3",
		"^1" + strings.Repeat("+", 97) + "3",
		strings.Repeat("(", 33) + strings.Repeat(")*", 33) + "3",
		strings.Repeat(".*", 49) + "3",
	} {
		e := parse(t, s)
		e.Match(long)
		if strings.HasSuffix(s, "3") && (e.Match(long) || e.Match(last)) {
			t.Errorf("%q matches", s)
		}
	}
	e := parse(t, "^(1*)*2$")
	if !e.Match(last) || e.Match(long) {
		t.Error("a long list")
	}
}

// made is a pattern that is made up along with what it takes, which is worked out by the words of P11.2 alone.
type made struct {
	text string                           // as Text writes it
	ends func(l []uint32, from int) []int // up to which places it takes from a place on
}

// union is all places that some tell, each once.
func union(l []int, more ...int) []int {
	l = append(slices.Clone(l), more...)
	slices.Sort(l)
	return slices.Compact(l)
}

func one(text string, takes func(n uint32) bool) made {
	return made{text, func(l []uint32, from int) []int {
		if from < len(l) && takes(l[from]) {
			return []int{from + 1}
		}
		return nil
	}}
}

func place(text string, is func(l []uint32, from int) bool) made {
	return made{text, func(l []uint32, from int) []int {
		if is(l, from) {
			return []int{from}
		}
		return nil
	}}
}

func behind(a, b made) made {
	return made{strings.TrimSpace(a.text + " " + b.text), func(l []uint32, from int) []int {
		var out []int
		for _, p := range a.ends(l, from) {
			out = union(out, b.ends(l, p)...)
		}
		return out
	}}
}

func either(a, b made) made {
	return made{a.text + "|" + b.text, func(l []uint32, from int) []int {
		return union(a.ends(l, from), b.ends(l, from)...)
	}}
}

func within(a made) made { return made{"(" + a.text + ")", a.ends} }

func repeated(a made, sign string) made {
	return made{a.text + sign, func(l []uint32, from int) []int {
		once := a.ends(l, from)
		if sign == "?" {
			return union(once, from)
		}
		out := once
		if sign == "*" {
			out = union(once, from)
		}
		for was := -1; was != len(out); {
			was = len(out)
			for _, p := range out {
				out = union(out, a.ends(l, p)...)
			}
		}
		return out
	}}
}

// atom is a made pattern that may be repeated.
func (x *chance) atom(depth int) made {
	switch x.below(9) {
	case 0:
		return place("^", func(l []uint32, from int) bool { return from == 0 })
	case 1:
		return place("$", func(l []uint32, from int) bool { return from == len(l) })
	case 2:
		return one(".", func(n uint32) bool { return true })
	case 3:
		return one("[2 3]", func(n uint32) bool { return n == 2 || n == 3 })
	case 4:
		return one("[^1 3-4]", func(n uint32) bool { return n != 1 && n != 3 && n != 4 })
	case 5, 6:
		if depth > 0 {
			return within(x.choices(depth - 1))
		}
	case 7:
		return one("1", func(n uint32) bool { return n == 1 })
	}
	return one("2", func(n uint32) bool { return n == 2 })
}

func (x *chance) row(depth int) made {
	out := made{"", func(l []uint32, from int) []int { return []int{from} }}
	for range x.below(4) {
		part := x.atom(depth)
		for range x.below(5) - 2 {
			part = repeated(part, []string{"*", "+", "?"}[x.below(3)])
		}
		out = behind(out, part)
	}
	return out
}

func (x *chance) choices(depth int) made {
	out := x.row(depth)
	for range x.below(6) - 3 {
		out = either(out, x.row(depth))
	}
	return out
}

// spread is a text with blanks, _ and commas laid where they say nothing.
func (x *chance) spread(s string) string {
	out, set := "", false
	for i, c := range s {
		if c == ']' {
			set = false
		}
		digit := func(at int) bool { return at >= 0 && s[at] >= '0' && s[at] <= '9' }
		if c == ' ' && !set && (!digit(i-1) || !digit(i+1)) && x.below(2) == 0 {
			continue
		}
		if c == ' ' {
			out += []string{" ", "_", "  ", "_ _"}[x.below(4)]
		} else if x.below(4) == 0 && c != '-' && !digit(i-1) && (i == 0 || s[i-1] != '-') {
			out += []string{" ", "_"}[x.below(2)]
		}
		if c == ' ' && set {
			out += []string{"", ",", ",,_"}[x.below(3)]
		}
		if c != ' ' {
			out += string(c)
		}
		if c == '[' {
			set = true
		}
	}
	return out
}

// lists is all lists of the numbers 1 to 3 of at most so many.
func lists(most int) [][]uint32 {
	out := [][]uint32{nil}
	for from := 0; len(out[from]) < most; from++ {
		for n := range uint32(3) {
			out = append(out, append(slices.Clone(out[from]), n+1))
		}
	}
	return out
}

func TestMatchIsWhatPiecesTake(t *testing.T) {
	x := chance(5)
	all := lists(4)
	matched, missed := 0, 0
	for range 4000 {
		m := x.choices(3)
		if len(m.text) > 60 {
			continue
		}
		s := x.spread(m.text)
		if len(s) > 100 {
			continue
		}
		e := parse(t, s)
		if e.Text() != m.text || e.Size() != len(m.text) {
			t.Fatalf("%q is written %q, not %q", s, e.Text(), m.text)
		}
		for _, l := range all {
			want := false
			for from := range len(l) + 1 {
				want = want || len(m.ends(l, from)) > 0
			}
			if e.Match(l) != want {
				t.Fatalf("%q of %v: %v", s, l, !want)
			}
			if want {
				matched++
			} else {
				missed++
			}
		}
	}
	if matched < 50000 || missed < 20000 {
		t.Error(matched, missed)
	}
}
