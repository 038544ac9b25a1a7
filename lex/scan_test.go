package lex_test

import (
	"regexp"
	"slices"
	"strconv"
	"strings"
	"testing"
	"unicode/utf8"

	"speculum/api"
	"speculum/lex"
)

type words = []any

// P13.1

func TestScan(t *testing.T) {
	for _, c := range []struct {
		line string
		want words
	}{
		{`show 12 "a b"`, words{lex.Word("show"), lex.Num(12), lex.Quoted("a b")}},
		// Blanks ahead, behind, more than one; nothing else.
		{"", nil}, {" ", nil}, {"     ", nil}, {strings.Repeat(" ", 200), nil},
		{" a", words{lex.Word("a")}}, {"a ", words{lex.Word("a")}}, {"   a   ", words{lex.Word("a")}}, {"a  b", words{lex.Word("a"), lex.Word("b")}}, {"  a     b c  ", words{lex.Word("a"), lex.Word("b"), lex.Word("c")}},
		{`  1   "x"   y  `, words{lex.Num(1), lex.Quoted("x"), lex.Word("y")}}, {`  "  "  `, words{lex.Quoted("  ")}},
		// Numbers.
		{"0", words{lex.Num(0)}}, {"7", words{lex.Num(7)}}, {"10 200", words{lex.Num(10), lex.Num(200)}}, {"4294967295", words{lex.Num(4294967295)}},
		// Digits that are no number.
		{"00", words{lex.Word("00")}}, {"01", words{lex.Word("01")}}, {"0012", words{lex.Word("0012")}}, {"4294967296", words{lex.Word("4294967296")}}, {"18446744073709551616", words{lex.Word("18446744073709551616")}}, {strings.Repeat("9", 200), words{lex.Word(strings.Repeat("9", 200))}},
		{"-1", words{lex.Word("-1")}}, {"+1", words{lex.Word("+1")}}, {"1.5", words{lex.Word("1.5")}}, {"1e3", words{lex.Word("1e3")}}, {"0x1f", words{lex.Word("0x1f")}}, {"12a", words{lex.Word("12a")}}, {"a12", words{lex.Word("a12")}}, {"1_000", words{lex.Word("1_000")}}, {"-0", words{lex.Word("-0")}}, {"1,2", words{lex.Word("1,2")}},
		{"٣", words{lex.Word("٣")}}, {"１", words{lex.Word("１")}},
		// Words of any other signs.
		{"10.0.0.0/8 8-24", words{lex.Word("10.0.0.0/8"), lex.Word("8-24")}}, {"65001:7", words{lex.Word("65001:7")}}, {"no-export", words{lex.Word("no-export")}}, {"!#$%&'()*+,-./:;<=>?@[]^_`{|}~", words{lex.Word("!#$%&'()*+,-./:;<=>?@[]^_`{|}~")}},
		{"ä ß", words{lex.Word("ä"), lex.Word("ß")}}, {"日本 語", words{lex.Word("日本"), lex.Word("語")}}, {"😀", words{lex.Word("😀")}},
		// A backslash says nothing in a word without quotes.
		{`\`, words{lex.Word(`\`)}}, {`\\`, words{lex.Word(`\\`)}}, {`a\b`, words{lex.Word(`a\b`)}}, {`a\ b`, words{lex.Word(`a\`), lex.Word("b")}}, {`\n \1`, words{lex.Word(`\n`), lex.Word(`\1`)}}, {`\12`, words{lex.Word(`\12`)}}, {`\ "a"`, words{lex.Word(`\`), lex.Quoted("a")}},
		// Blanks of other alphabets are none.
		{"a\u00a0b", words{lex.Word("a\u00a0b")}}, {"\u2003", words{lex.Word("\u2003")}}, {"a\u3000 b", words{lex.Word("a\u3000"), lex.Word("b")}}, {"\ufeffa", words{lex.Word("\ufeffa")}}, {"\u0085", words{lex.Word("\u0085")}}, {"\u2028", words{lex.Word("\u2028")}}, {"1\u00a0", words{lex.Word("1\u00a0")}},
		// Quotes of other alphabets, too.
		{"“a b”", words{lex.Word("“a"), lex.Word("b”")}}, {"'a b'", words{lex.Word("'a"), lex.Word("b'")}}, {"`a", words{lex.Word("`a")}}, {"＂", words{lex.Word("＂")}},
		// The rune that stands for what is none is one itself.
		{"\ufffd", words{lex.Word("\ufffd")}}, {"\"\ufffd\"", words{lex.Quoted("\ufffd")}},
		// Quoted ones.
		{`""`, words{lex.Quoted("")}}, {`"" ""`, words{lex.Quoted(""), lex.Quoted("")}}, {`" "`, words{lex.Quoted(" ")}}, {`"a"`, words{lex.Quoted("a")}}, {`"a"  "b"`, words{lex.Quoted("a"), lex.Quoted("b")}}, {`"12"`, words{lex.Quoted("12")}}, {`"  a  b  "`, words{lex.Quoted("  a  b  ")}}, {`"äß日😀"`, words{lex.Quoted("äß日😀")}},
		{`"\""`, words{lex.Quoted(`"`)}}, {`"\\"`, words{lex.Quoted(`\`)}}, {`"\\\""`, words{lex.Quoted(`\"`)}}, {`"\"\\"`, words{lex.Quoted(`"\`)}}, {`"a\"b\\c"`, words{lex.Quoted(`a"b\c`)}}, {`"\\\\"`, words{lex.Quoted(`\\`)}}, {`"\" \""`, words{lex.Quoted(`" "`)}}, {`"\\" "x"`, words{lex.Quoted(`\`), lex.Quoted("x")}}, {`"\\n"`, words{lex.Quoted(`\n`)}},
		{`"^1 (2|3)*$" 5`, words{lex.Quoted("^1 (2|3)*$"), lex.Num(5)}},
	} {
		got, e := lex.Scan(c.line)
		if e != api.OK || !slices.Equal(got, c.want) {
			t.Errorf("%q: %#v, %d", c.line, got, e)
		}
	}
}

func TestScanRefuses(t *testing.T) {
	for _, line := range []string{
		// Quotes that don't end.
		`"`, `"a`, `"a b`, `"" "`, `a "`, `"\"`, `"\\\"`, `"a\"`, `" `, `"   `, `"a" "b`, `"\\" "`, `"" "" "`, `1 2 "3`,
		`"\`, `"a\`, `"\ `, `"\\\`, `a "\`,
		// A sign behind them.
		`"a"b`, `"a"1`, `"a""b"`, `""""`, `"""`, `"a"\`, `""a ""`, `"a".`, `"a",`, `"\""x`, `"a"ä`, "\"a\"\u00a0", `"a"\"`, `"a"\ b`, `x "a"b y`,
		// A backslash ahead of another rune.
		`"\a"`, `"\n"`, `"\ "`, `"\1"`, `"a\b"`, `"\'"`, `"\/"`, `"\ä"`, "\"\\\u00a0\"", `"\\\a"`, `"\"\x"`, `"\\a\b"`, `"a" "\t"`,
		// A double quote in a word without quotes.
		`a"`, `a"b`, `a"b"`, `a"b c"`, `1"`, `1"2"`, `\"`, `\"a"`, `a\"b`, `ä"`, `a" b`, `a ""b`, `b"" a`,
		// Runes that may not be, wherever they stand.
		"\t", "a\tb", "a\t", "\ta", "a \t b", "\n", "a\n", "\r\n", "a b\r", "\x00", "a\x00b", "\"\t\"", "\"a\nb\"", "\x1f", "\x1b[1m", "\x7f", "a\x7f", "\"\x7f\"", "1\x7f", "12\n", "\"a\"\n", "\"a\"\t\"b\"", "\"\\\n\"",
		// No runes at all.
		"\xff", "a\xff", "\xffa", "a \xff b", "\"\xff\"", "\"a\"\xff", "1\xff", "\xc3", "\xc3 ", "a\xc3", "\"\xc3\"", "\x80", "\xbf", "\xfe", "\xe2\x80", "\"\xe2\x80\"", "\xf0\x9f\x98", "\xa4", "\xc3\xa4\xa4",
		"\xc0\xaf", "\xc0\xa0", "\xc1\x81", "\xe0\x80\xa0", "\xed\xa0\x80", "\xed\xbf\xbf", "\xf4\x90\x80\x80", "\xf8\x88\x80\x80\x80", "\xef\xbf", "\xef\xbf\xbd\xff", "\xff\xef\xbf\xbd",
		"\"\\\xff\"", "a\"\xff",
	} {
		got, e := lex.Scan(line)
		if e != api.EFORM || len(got) != 0 {
			t.Errorf("%q: %#v, %d", line, got, e)
		}
	}
}

func TestScanLength(t *testing.T) {
	long := func(s string, n int) string { return strings.Repeat(s, n) }
	for _, c := range []struct {
		name, line string
		want       api.Errno
	}{
		{"200 signs", long("a", 200), api.OK}, {"201 signs", long("a", 201), api.ELONG},
		{"200 digits", long("1", 200), api.OK}, {"201 digits", long("1", 201), api.ELONG},
		{"200 blanks", long(" ", 200), api.OK}, {"201 blanks", long(" ", 201), api.ELONG}, {"blanks behind", "a" + long(" ", 200), api.ELONG}, {"blanks ahead", long(" ", 200) + "a", api.ELONG},
		{"198 within quotes", `"` + long("b", 198) + `"`, api.OK}, {"199 within quotes", `"` + long("b", 199) + `"`, api.ELONG},
		{"99 words", long("a ", 99) + "bb", api.OK}, {"100 words and a sign", long("a ", 100) + "b", api.ELONG}, {"99 backslashes doubled", `"` + long(`\\`, 99) + `"`, api.OK},
		// Bytes are counted, not runes.
		{"100 runes", long("ä", 100), api.OK}, {"101 runes", long("ä", 101), api.ELONG}, {"50 runes", long("😀", 50), api.OK}, {"51 runes", long("😀", 51), api.ELONG},
		// Too long ahead of no words.
		{"200 quotes", long(`"`, 200), api.EFORM}, {"201 quotes", long(`"`, 201), api.ELONG}, {"an open quote", `"` + long("a", 199), api.EFORM}, {"a longer open quote", `"` + long("a", 200), api.ELONG},
		{"200 tabs", long("\t", 200), api.EFORM}, {"201 tabs", long("\t", 201), api.ELONG}, {"200 bytes", long("\xff", 200), api.EFORM}, {"201 bytes", long("\xff", 201), api.ELONG}, {"a tab at the end", long("a", 199) + "\t", api.EFORM}, {"a tab behind", long("a", 200) + "\t", api.ELONG},
		{"very long", long("a ", 1<<20), api.ELONG},
	} {
		got, e := lex.Scan(c.line)
		if e != c.want || e != api.OK && len(got) != 0 {
			t.Error(c.name, len(got), e)
		}
	}
	if l, _ := lex.Scan(long("a ", 100)); len(l) != 100 {
		t.Error(len(l))
	}
	if l, _ := lex.Scan(long("a", 200)); len(l) != 1 || l[0] != lex.Word(long("a", 200)) {
		t.Error(l)
	}
}

// Each rune is a word, or is refused, by its number alone.
func TestScanEachRune(t *testing.T) {
	for c := range rune(utf8.MaxRune + 1) {
		if !utf8.ValidRune(c) {
			continue
		}
		line := "a" + string(c) + "b"
		got, e := lex.Scan(line)
		switch {
		case c < 32 || c == 127 || c == '"':
			if e != api.EFORM || len(got) != 0 {
				t.Fatalf("%x: %v, %d", c, got, e)
			}
		case c == 32:
			if e != api.OK || !slices.Equal(got, words{lex.Word("a"), lex.Word("b")}) {
				t.Fatalf("%x: %v, %d", c, got, e)
			}
		case e != api.OK || len(got) != 1 || got[0] != lex.Word(line):
			t.Fatalf("%x: %v, %d", c, got, e)
		}
	}
}

// Each byte from 128 on is no rune, alone.
func TestScanEachByte(t *testing.T) {
	for c := 128; c < 256; c++ {
		one := string([]byte{byte(c)})
		for _, line := range []string{one, "a" + one, one + "a", " " + one + " ", `"` + one + `"`, `"` + one, `"\` + one + `"`} {
			if got, e := lex.Scan(line); e != api.EFORM || len(got) != 0 {
				t.Errorf("%q: %v, %d", line, got, e)
			}
		}
	}
}

// splitter tells a line's words in a second way: by what the whole looks like.
type splitter struct{ whole, word, number *regexp.Regexp }

func newSplitter() splitter {
	const one = `(?:"(?:[^"\\]|\\["\\])*"|[^" ]+)`
	return splitter{regexp.MustCompile(`^ *(?:` + one + `(?: +` + one + `)*)? *$`), regexp.MustCompile(one), regexp.MustCompile(`^(?:0|[1-9][0-9]{0,9})$`)}
}

func (x splitter) split(line string) (words, bool) {
	if !utf8.ValidString(line) || strings.ContainsAny(line, "\t\n\x00\x7f\x1f") || !x.whole.MatchString(line) {
		return nil, false
	}
	var out words
	for _, s := range x.word.FindAllString(line, -1) {
		n, err := strconv.ParseUint(s, 10, 32)
		switch {
		case s[0] == '"':
			out = append(out, lex.Quoted(strings.NewReplacer(`\\`, `\`, `\"`, `"`).Replace(s[1:len(s)-1])))
		case x.number.MatchString(s) && err == nil:
			out = append(out, lex.Num(n))
		default:
			out = append(out, lex.Word(s))
		}
	}
	return out, true
}

func TestScanIsTheSecondWay(t *testing.T) {
	x := newSplitter()
	taken, refused := 0, 0
	look := func(line string) {
		want, ok := x.split(line)
		got, e := lex.Scan(line)
		if (e == api.OK) != ok || e != api.OK && e != api.EFORM || !slices.Equal(got, want) {
			t.Fatalf("%q: %#v, %d; %#v", line, got, e, want)
		}
		if ok {
			taken++
		} else {
			refused++
		}
	}
	each([]string{"a", "0", "1", " ", `"`, `\`}, 7, look)
	each([]string{"ä", "\xa4", "\t", "\x7f", " ", `"`, `\`}, 5, look)
	// Longer ones, by chance.
	c := chance(5)
	bits := []string{"show", "12", "4294967295", "4294967296", "007", " ", " ", "  ", `"`, `"`, `"a b"`, `"x\"y"`, `\`, `\\`, `\"`, `""`, "ä", "\ufffd", `"" `, ` "`, `" `, "\xff"}
	for range 60000 {
		line := ""
		for range c.below(10) {
			line += bits[c.below(len(bits))]
		}
		look(line)
	}
	if taken < 100000 || refused < 100000 {
		t.Error(taken, refused)
	}
}

// each hands out all texts of some pieces that have so many at most.
func each(pieces []string, most int, do func(s string)) {
	var on func(s string, left int)
	on = func(s string, left int) {
		do(s)
		for _, p := range pieces {
			if left > 0 {
				on(s+p, left-1)
			}
		}
	}
	on("", most)
}

// chance is numbers that come the same each time.
type chance uint32

func (x *chance) below(n int) int {
	*x ^= *x << 13
	*x ^= *x >> 17
	*x ^= *x << 5
	return int(uint32(*x) % uint32(n))
}

// Rules 4 and 5: what is answered hangs on the line alone, and no answer meddles with another one.
func TestScanTwice(t *testing.T) {
	const line = `a 1 "b c" d`
	want := words{lex.Word("a"), lex.Num(1), lex.Quoted("b c"), lex.Word("d")}
	first, _ := lex.Scan(line)
	lex.Scan(`"open`)
	lex.Scan("x y z")
	second, _ := lex.Scan(line)
	left, right := append(first[:2], "left"), append(second, "right")
	if len(left) != 3 || len(right) != 5 {
		t.Error(left, right)
	}
	third, e := lex.Scan(line)
	if e != api.OK || !slices.Equal(third, want) || !slices.Equal(second, want) {
		t.Error(second, third)
	}
}
