package lex_test

import (
	"slices"
	"strings"
	"testing"
	"unicode/utf8"

	"speculum/api"
	"speculum/lex"
)

// P13.3

func TestQuote(t *testing.T) {
	for _, c := range []struct{ s, want string }{
		{"", `""`}, {" ", `" "`}, {"a", `"a"`}, {"a b", `"a b"`}, {"12", `"12"`}, {"  a  ", `"  a  "`}, {"^1 (2|3)*$", `"^1 (2|3)*$"`},
		{`"`, `"\""`}, {`\`, `"\\"`}, {`\"`, `"\\\""`}, {`"\`, `"\"\\"`}, {`""`, `"\"\""`}, {`\\`, `"\\\\"`}, {`a"b\c`, `"a\"b\\c"`}, {`\n`, `"\\n"`}, {`\\"`, `"\\\\\""`},
		{"ä日😀", `"ä日😀"`}, {"\u00a0", "\"\u00a0\""}, {"\u0080", "\"\u0080\""}, {"\ufffd", "\"\ufffd\""}, {"~!", `"~!"`}, {"'`", "\"'`\""},
		// It may be longer than a line.
		{strings.Repeat("a", 198), `"` + strings.Repeat("a", 198) + `"`}, {strings.Repeat("a", 5000), `"` + strings.Repeat("a", 5000) + `"`}, {strings.Repeat(`\`, 300), `"` + strings.Repeat(`\`, 600) + `"`},
	} {
		if got, ok := lex.Quote(c.s); !ok || got != c.want {
			t.Errorf("%q: %s, %v", c.s, got, ok)
		}
	}
}

func TestQuoteRefuses(t *testing.T) {
	l := []string{
		"a\tb", "a\n", "\ra", "a\x00", "\"\t\"", "\\\n", "a\x7fb", "\x7f", "\x1f",
		"\xff", "a\xff", "\xffa", "\xc3", "\xc3\"", "\xc0\xa2", "\xc1\x9c", "\xed\xa0\x80", "\xf4\x90\x80\x80", "\xe2\x80", "\xef\xbf", "\xef\xbf\xbd\xff", "\"\xff", "\\\xff", strings.Repeat("a", 5000) + "\xff", strings.Repeat("a", 5000) + "\t",
	}
	for c := range 32 {
		l = append(l, string(rune(c)))
	}
	for c := 128; c < 256; c++ {
		l = append(l, string([]byte{byte(c)}), "a"+string([]byte{byte(c), 'b'}))
	}
	for _, s := range l {
		if got, ok := lex.Quote(s); ok || got != "" {
			t.Errorf("%q: %s", s, got)
		}
	}
}

func TestQuoteEachRune(t *testing.T) {
	for c := range rune(utf8.MaxRune + 1) {
		if !utf8.ValidRune(c) {
			continue
		}
		want := `"` + string(c) + `"`
		if c == '"' || c == '\\' {
			want = `"\` + string(c) + `"`
		}
		got, ok := lex.Quote(string(c))
		if may := c >= 32 && c != 127; ok != may || may && got != want || !may && got != "" {
			t.Fatalf("%x: %q, %v", c, got, ok)
		}
	}
}

// P13.4

// quotedIs tells whether a text is scanned as it was, as far as it can be quoted, and is not too long.
func quotedIs(t *testing.T, s string) bool {
	line, ok := lex.Quote(s)
	if !ok {
		return false
	}
	got, e := lex.Scan(line)
	if len(line) > 200 {
		if e != api.ELONG || len(got) != 0 {
			t.Fatalf("%q: %v, %d", s, got, e)
		}
		return false
	}
	if e != api.OK || len(got) != 1 || got[0] != lex.Quoted(s) {
		t.Fatalf("%q: %v, %d", s, got, e)
	}
	return true
}

func TestWhatIsQuotedIsScanned(t *testing.T) {
	was := 0
	look := func(s string) {
		if quotedIs(t, s) {
			was++
		}
	}
	each([]string{"a", "1", " ", `"`, `\`, "ä", "\t", "\xa4"}, 5, look)
	c := chance(9)
	for range 20000 {
		s := ""
		for range c.below(40) {
			switch c.below(4) {
			case 0:
				s += `"`
			case 1:
				s += `\`
			case 2:
				s += string(rune(c.below(utf8.MaxRune)))
			default:
				s += string(rune(32 + c.below(95)))
			}
		}
		look(s)
	}
	if was < 20000 {
		t.Error(was)
	}
	// At the border of a line.
	for n := 190; n < 205; n++ {
		if quotedIs(t, strings.Repeat("a", n)) != (n <= 198) || quotedIs(t, strings.Repeat(`"`, n/2)) != (n/2 <= 99) {
			t.Error(n)
		}
	}
}

// Quoted ones of a line stay apart, wherever they stand in it.
func TestQuotedAmongOthers(t *testing.T) {
	c := chance(3)
	texts := []string{"", " ", "a", `"`, `\`, `\"`, "a b", "12", "ä", ` "`, `\\ `}
	for range 5000 {
		line := strings.Repeat(" ", c.below(3))
		var want words
		for range c.below(6) {
			switch c.below(3) {
			case 0:
				line += "w"
				want = append(want, lex.Word("w"))
			case 1:
				line += "7"
				want = append(want, lex.Num(7))
			default:
				s := texts[c.below(len(texts))]
				q, _ := lex.Quote(s)
				line += q
				want = append(want, lex.Quoted(s))
			}
			line += strings.Repeat(" ", 1+c.below(3))
		}
		if got, e := lex.Scan(line); e != api.OK || !slices.Equal(got, want) {
			t.Fatalf("%q: %#v, %d", line, got, e)
		}
	}
}
