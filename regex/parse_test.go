package regex_test

import (
	"regexp"
	"strconv"
	"strings"
	"testing"

	"speculum/api"
	"speculum/regex"
)

// P11.1

func parse(t *testing.T, s string) *regex.Expr {
	t.Helper()
	e, err := regex.Parse(s)
	if err != api.OK || e == nil {
		t.Fatalf("%q: %d", s, err)
	}
	return e
}

func TestParseTakes(t *testing.T) {
	for _, s := range []string{
		// No part, no row's parts, blanks alone.
		"", " ", "_", " _ _", "|", "||", "()", "(|)", "( _ )", "()()", "(())", "1||2", "|1", "1|", "(|1)", "(1|)",
		// Atoms.
		"0", "7", "12", "4294967295", ".", "^", "$", "(1)", "[1]",
		// One behind the other, with and without blanks and _.
		"1 2", "1_2", " 1 _ 2_", "_1", "1_", ".1", "1.", "1.2", "..", "^1$", "^^", "$$", "$^", "1^2", "1$2", "[1][2]", "1[2]3", "(1)2", "1(2)", "(1)(2)",
		// Repeats, as often as one likes, blanks among them.
		"1*", "1+", "1?", "1**", "1+*?", "1 *", "1_+", "1 * + ?", "1* 2", "1*2", "^*", "$+", ".?", "()*", "()+?", "[1]*", "(1|2)+", "((1*)*)*", "(|)*",
		"1 ^ * 2",
		// Choices.
		"1|2", "1 | 2", "1_|_2", "1 2|3 4|5", "(1|2)|3", "1*|2+", "^1|2$", "((((1))))",
		// Sets.
		"[ 1 ]", "[_1_]", "[,1]", "[1,]", "[1,2]", "[1,,2]", "[1 2]", "[1_2]", "[1 , _ 2]", "[1-2]", "[1-1]", "[0-4294967295]", "[9-10]", "[1-2,3]", "[1-2 3-4]", "[,,1,,]", "[1,1]", "[3 2 1]", "[5-9,1-6]",
		"[^1]", "[ ^1]", "[_^1]", "[ _ ^1]", "[^ 1]", "[^_1]", "[^,1]", "[ ^ , 1 , 2-3 ]", "[^1-2]",
	} {
		if e, err := regex.Parse(s); err != api.OK || e == nil {
			t.Errorf("%q: %d", s, err)
		}
	}
}

func TestParseRefuses(t *testing.T) {
	for _, s := range []string{
		// Nothing that could be repeated.
		"*", "+", "?", " *", "_+", "1|*", "1|+2", "(*)", "(?1)", "(*1)", "|?", "(1|*)", "* 1", "**",
		// Choices without an end, or without a beginning.
		"(", ")", "(1", "1)", "((1)", "(1))", ")(", "(1|", "1|)", "(1 (2)", "1)*", "(()", "())",
		// Sets.
		"[", "]", "[1", "1]", "[]", "[ ]", "[_]", "[,]", "[^]", "[ ^ ]", "[^,]", "[^", "[1,", "[1-", "[1-2", "[[1]]", "[1]]", "[[1]", "[1[2]",
		"[^^1]", "[1^]", "[1^2]", "[,^1]", "[1 ^2]", "[.]", "[1.]", "[$]", "[1|2]", "[1*]", "[1+]", "[1?]", "[(1)]", "[1(]", "[1)]",
		// Two numbers with - just between, the first not above the second.
		"[2-1]", "[10-9]", "[4294967295-0]", "[1 -2]", "[1- 2]", "[1 - 2]", "[1_-2]", "[1-_2]", "[1,-2]", "[1-,2]", "[-1]", "[-]", "[1-]", "[--]", "[1--2]", "[1-2-3]", "[1-2-]", "[-1-2]", "[1-^2]", "[1-.]",
		// No numbers in digits.
		"01", "00", "007", "4294967296", "18446744073709551616", "99999999999999999999999999", "[01]", "[1-02]", "[00]", "[4294967296]", "[0-4294967296]", "1 02", "-1", "1-2", "1-", "-", "(1-2)", "1e3", "0x1",
		// Signs that say nothing here.
		",", "1,2", "a", "1a", "a1", "[a]", "[1a]", "{1}", "1{2}", "\\", "\\1", "/", "\"1\"", "'", "!", "#", ":", ";", "<1>", "=", "@", "~", "`", "&", "%", "65001:7", "{1,2}",
		// Blanks that are none.
		"\t", "1\t2", "\n", "1\n", "\r", "\v", "\x00", "1\x00", "\u00a0", "1\u00a02", "\u2003", "\u3000", "\ufeff",
		// What looks like a digit, or like a sign.
		"١", "１", "²", "1²", "٣", "［1］", "·", "∗", "（1）", "−", "[1–2]", "[1−2]", "1。", "＾", "＿",
		// No runes at all.
		"\xff", "1\xff", "\xff1", "1 \xff", "[1\xff]", "\xc3", "1\xe2\x80", "\xed\xa0\x80", "\xc0\xb1", "\ufffd", "(\xff)", "1*\xff",
	} {
		if e, err := regex.Parse(s); err != api.EREGEX || e != nil {
			t.Errorf("%q: %d", s, err)
		}
	}
}

func TestParseRefusesEachOtherByte(t *testing.T) {
	for c := range 256 {
		s := "1" + string([]byte{byte(c)}) + "2"
		_, err := regex.Parse(s)
		want := api.EREGEX
		if strings.Contains("0123456789 _.^$|", string([]byte{byte(c)})) || c == '*' || c == '+' || c == '?' {
			want = api.OK
		}
		if err != want {
			t.Errorf("%q: %d", s, err)
		}
	}
}

func TestParseLength(t *testing.T) {
	for _, c := range []struct {
		s    string
		want api.Errno
	}{
		{strings.Repeat(".", 100), api.OK},
		{strings.Repeat(".", 101), api.ELONG},
		{strings.Repeat(" ", 100), api.OK},
		{strings.Repeat(" ", 101), api.ELONG},
		{strings.Repeat("(", 50) + strings.Repeat(")", 50), api.OK},
		{"1" + strings.Repeat("*", 99), api.OK},
		{"1" + strings.Repeat("*", 100), api.ELONG},
		// What is too long is told ahead of what is none.
		{strings.Repeat("(", 100), api.EREGEX},
		{strings.Repeat("(", 101), api.ELONG},
		{strings.Repeat("9", 100), api.EREGEX},
		{strings.Repeat("9", 101), api.ELONG},
		{strings.Repeat("x", 1<<20), api.ELONG},
		// Bytes are counted, not runes.
		{strings.Repeat("\u2003", 33), api.EREGEX},
		{strings.Repeat("\u2003", 34), api.ELONG},
		{strings.Repeat("\xff", 100), api.EREGEX},
		{strings.Repeat("\xff", 101), api.ELONG},
	} {
		if e, err := regex.Parse(c.s); err != c.want || (e != nil) != (c.want == api.OK) {
			t.Errorf("%d bytes of %.8q: %d", len(c.s), c.s, err)
		}
	}
}

// grammar tells whether a text of the signs 0 to 9 _ . ^ $ * + ? | ( ) [ ] , - and blanks is a pattern,
// by writing A for each atom, the innermost first, until just rows are left.
type grammar struct{ set, pair, digits, repeats, inner, whole *regexp.Regexp }

func newGrammar() grammar {
	const number = `(?:0|[1-9][0-9]*)`
	const member = number + `(?:-` + number + `)?`
	return grammar{
		set:     regexp.MustCompile(`\[[ _]*\^?[ _,]*` + member + `(?:[ _,]+` + member + `)*[ _,]*\]`),
		pair:    regexp.MustCompile(`([0-9]+)-([0-9]+)`),
		digits:  regexp.MustCompile(`[0-9]+`),
		repeats: regexp.MustCompile(`A[*+?]+`),
		inner:   regexp.MustCompile(`\(A*(?:\|A*)*\)`),
		whole:   regexp.MustCompile(`^A*(?:\|A*)*$`),
	}
}

func (g grammar) takes(s string) bool {
	s = g.set.ReplaceAllStringFunc(s, func(set string) string {
		for _, p := range g.pair.FindAllStringSubmatch(set, -1) {
			from, _ := strconv.Atoi(p[1])
			to, _ := strconv.Atoi(p[2])
			if from > to {
				return "!"
			}
		}
		return "A"
	})
	s = g.digits.ReplaceAllStringFunc(s, func(n string) string {
		if len(n) > 1 && n[0] == '0' {
			return "!"
		}
		return "A"
	})
	s = strings.NewReplacer(".", "A", "^", "A", "$", "A", " ", "", "_", "").Replace(s)
	for was := ""; was != s; {
		was = s
		s = g.repeats.ReplaceAllString(s, "A")
		s = g.inner.ReplaceAllString(s, "A")
	}
	return g.whole.MatchString(s)
}

// each hands out all texts of some signs that have so many at most.
func each(signs string, most int, do func(s string)) {
	var on func(s string)
	on = func(s string) {
		do(s)
		if len(s) < most {
			for _, c := range signs {
				on(s + string(c))
			}
		}
	}
	on("")
}

func TestParseIsTheGrammar(t *testing.T) {
	g := newGrammar()
	taken, refused := 0, 0
	look := func(s string) {
		e, err := regex.Parse(s)
		if (err == api.OK) != g.takes(s) || err != api.OK && err != api.EREGEX || (e == nil) != (err != api.OK) {
			t.Fatalf("%q: %d", s, err)
		}
		if err == api.OK {
			taken++
		} else {
			refused++
		}
	}
	each("1 *|()^", 6, look)
	each("10-[]^,", 6, look)
	each("1-[]^ ,_", 5, look)
	each("1_.$+?()[]-|", 4, look)
	if taken < 20000 || refused < 20000 {
		t.Error(taken, refused)
	}
	// Longer ones, of which the signs make some by chance.
	x := chance(11)
	bits := []string{"1", "20", "0", " ", "_", ".", "^", "$", "*", "+", "?", "|", "(", ")", "(1", ")*", "[1", "[^2-3", "]", ",4", "-5", "[1-20]", "[7]"}
	for range 60000 {
		s := ""
		for range x.below(12) {
			s += bits[x.below(len(bits))]
		}
		look(s)
	}
}

// chance is numbers that come the same each time.
type chance uint32

func (x *chance) below(n int) int {
	*x ^= *x << 13
	*x ^= *x >> 17
	*x ^= *x << 5
	return int(uint32(*x) % uint32(n))
}

// Rule 5: what a pattern answers hangs on its text alone.
func TestParseTwice(t *testing.T) {
	a, b := parse(t, "^(1|[2-3 7])* 4+$"), parse(t, "^(1|[2-3 7])* 4+$")
	parse(t, "9")
	regex.Parse("(((")
	for _, l := range [][]uint32{nil, {4}, {1, 4}, {2, 3, 7, 4, 4}, {5, 4}, {4, 5}} {
		first := a.Match(l)
		if b.Match(l) != first || a.Match(l) != first || b.Text() != a.Text() {
			t.Error(l)
		}
	}
}
