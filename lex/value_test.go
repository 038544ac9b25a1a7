package lex_test

import (
	"errors"
	"math"
	"slices"
	"testing"

	"speculum/api"
	"speculum/lex"
)

// Types made of those of lex are others.
type (
	otherWord   lex.Word
	otherNum    lex.Num
	otherQuoted lex.Quoted
)

// others is values that are no words of a line.
func others() []any {
	word, num, quoted := lex.Word("a"), lex.Num(1), lex.Quoted("q")
	var noWord *lex.Word
	var noError error
	return []any{
		nil, noWord, noError, &word, &num, &quoted,
		"a", "", 1, 0, -1, int8(1), int16(1), int32(1), int64(1), uint(1), uint8(1), uint16(1), uint32(1), uint64(1), uintptr(1), 'a', 1.5, float32(1), 1i, true, false,
		otherWord("a"), otherNum(1), otherQuoted("q"), api.OK, api.EARG, api.Token{Kind: api.TWord, Text: "a"}, api.Token{Kind: api.TNum, Num: 1}, api.Token{}, api.Prefix{},
		[]lex.Word{"a"}, []any{word}, []any{}, []byte("a"), []rune("a"), []string{"a"}, [1]lex.Num{1}, map[string]lex.Word{"a": "a"}, struct{ lex.Word }{"a"}, func() lex.Word { return word }, make(chan lex.Num), errors.New("a"),
	}
}

// P13.2

func TestKind(t *testing.T) {
	for _, c := range []struct {
		v    any
		want int
	}{
		{lex.Word("a"), 1}, {lex.Word(""), 1}, {lex.Word("12"), 1}, {lex.Word(`"q"`), 1}, {lex.Word("\xff\n"), 1},
		{lex.Num(1), 2}, {lex.Num(0), 2}, {lex.Num(-1), 2}, {lex.Num(math.MaxInt), 2}, {lex.Num(math.MinInt), 2},
		{lex.Quoted("a"), 3}, {lex.Quoted(""), 3}, {lex.Quoted("12"), 3}, {lex.Quoted("\xff"), 3},
	} {
		if got := lex.Kind(c.v); got != c.want {
			t.Errorf("%#v: %d", c.v, got)
		}
	}
	for _, v := range others() {
		if got := lex.Kind(v); got != 0 {
			t.Errorf("%#v: %d", v, got)
		}
	}
	if api.TWord != 1 || api.TNum != 2 || api.TQuoted != 3 {
		t.Error("kinds")
	}
}

func TestAs(t *testing.T) {
	for _, s := range []string{"", "a", "12", "a b", `"`, `\`, "ä", "\xff", "\n"} {
		if got, ok := lex.AsWord(lex.Word(s)); !ok || got != s || lex.MustWord(lex.Word(s)) != s {
			t.Errorf("%q: %q, %v", s, got, ok)
		}
		if got, ok := lex.AsQuoted(lex.Quoted(s)); !ok || got != s {
			t.Errorf("%q: %q, %v", s, got, ok)
		}
	}
	for _, n := range []int{0, 1, -1, 4294967295, math.MaxInt, math.MinInt} {
		if got, ok := lex.AsNum(lex.Num(n)); !ok || got != n || lex.MustNum(lex.Num(n)) != n {
			t.Errorf("%d: %d, %v", n, got, ok)
		}
	}
}

func TestAsOfOthers(t *testing.T) {
	word, num, quoted := any(lex.Word("a")), any(lex.Num(1)), any(lex.Quoted("q"))
	for _, v := range append(others(), num, quoted, lex.Num(0), lex.Quoted("")) {
		if s, ok := lex.AsWord(v); ok || s != "" {
			t.Errorf("%#v is the word %q", v, s)
		}
	}
	for _, v := range append(others(), word, quoted, lex.Word("1"), lex.Quoted("1")) {
		if n, ok := lex.AsNum(v); ok || n != 0 {
			t.Errorf("%#v is the number %d", v, n)
		}
	}
	for _, v := range append(others(), word, num, lex.Word(`"q"`), lex.Word("")) {
		if s, ok := lex.AsQuoted(v); ok || s != "" {
			t.Errorf("%#v is quoted %q", v, s)
		}
	}
}

// panics tells whether a call does.
func panics(call func()) (did bool) {
	defer func() { did = recover() != nil }()
	call()
	return false
}

func TestMustPanics(t *testing.T) {
	word, num, quoted := any(lex.Word("a")), any(lex.Num(1)), any(lex.Quoted("q"))
	for _, v := range append(others(), num, quoted, lex.Num(0), lex.Quoted("")) {
		if !panics(func() { lex.MustWord(v) }) {
			t.Errorf("MustWord of %#v", v)
		}
	}
	for _, v := range append(others(), word, quoted, lex.Word("1"), lex.Quoted("1")) {
		if !panics(func() { lex.MustNum(v) }) {
			t.Errorf("MustNum of %#v", v)
		}
	}
	if panics(func() { lex.MustWord(word) }) || panics(func() { lex.MustNum(num) }) {
		t.Error("of its own kind")
	}
}

// Rule 6: but for those two no call panics, whatever it is handed.
func TestNoPanic(t *testing.T) {
	for _, v := range append(others(), lex.Word("a"), lex.Num(1), lex.Quoted("q")) {
		if panics(func() {
			lex.Kind(v)
			lex.AsWord(v)
			lex.AsNum(v)
			lex.AsQuoted(v)
			lex.Tokens([]any{v, v})
		}) {
			t.Errorf("%#v", v)
		}
	}
}

func TestTokens(t *testing.T) {
	for _, c := range []struct {
		l    []any
		want []api.Token
	}{
		{nil, nil}, {[]any{}, nil},
		{[]any{lex.Word("a")}, []api.Token{{Kind: 1, Text: "a"}}}, {[]any{lex.Word("12")}, []api.Token{{Kind: 1, Text: "12"}}}, {[]any{lex.Word("")}, []api.Token{{Kind: 1}}},
		{[]any{lex.Num(7)}, []api.Token{{Kind: 2, Num: 7}}}, {[]any{lex.Num(-7)}, []api.Token{{Kind: 2, Num: -7}}}, {[]any{lex.Num(0)}, []api.Token{{Kind: 2}}},
		{[]any{lex.Quoted("a b")}, []api.Token{{Kind: 3, Text: "a b"}}}, {[]any{lex.Quoted("")}, []api.Token{{Kind: 3}}}, {[]any{lex.Quoted("7")}, []api.Token{{Kind: 3, Text: "7"}}},
		{[]any{lex.Word("a"), nil, lex.Num(1), "b", lex.Quoted("c"), 5, lex.Word("a")}, []api.Token{{Kind: 1, Text: "a"}, {}, {Kind: 2, Num: 1}, {}, {Kind: 3, Text: "c"}, {}, {Kind: 1, Text: "a"}}},
	} {
		if got := lex.Tokens(c.l); !slices.Equal(got, c.want) {
			t.Errorf("%#v: %v", c.l, got)
		}
	}
	all := others()
	got := lex.Tokens(all)
	if len(got) != len(all) {
		t.Fatal(len(got))
	}
	for i, x := range got {
		if x != (api.Token{}) {
			t.Errorf("%#v: %v", all[i], x)
		}
	}
	l, _ := lex.Scan(`show 12 "a b"`)
	if got := lex.Tokens(l); !slices.Equal(got, []api.Token{{Kind: 1, Text: "show"}, {Kind: 2, Num: 12}, {Kind: 3, Text: "a b"}}) {
		t.Error(got)
	}
}

// Rule 4: neither the list nor the room behind its end is changed.
func TestTokensChangeNothing(t *testing.T) {
	whole := []any{lex.Word("a"), lex.Num(1), lex.Quoted("q"), nil, lex.Word("z")}
	was := slices.Clone(whole)
	got := lex.Tokens(whole[:2])
	got = append(got, api.Token{Kind: 9})
	if !slices.Equal(whole, was) || len(got) != 3 {
		t.Error(whole)
	}
	again := lex.Tokens(whole[:2])
	if !slices.Equal(again, got[:2]) {
		t.Error(again)
	}
}

// What is told of a value is the same, however it is asked.
func TestWaysOfAsking(t *testing.T) {
	all := append(others(), lex.Word("a"), lex.Word(""), lex.Num(0), lex.Num(12), lex.Quoted(""), lex.Quoted("q"))
	for i, x := range lex.Tokens(all) {
		v := all[i]
		word, isWord := lex.AsWord(v)
		num, isNum := lex.AsNum(v)
		quoted, isQuoted := lex.AsQuoted(v)
		kind := lex.Kind(v)
		if isWord != (kind == 1) || isNum != (kind == 2) || isQuoted != (kind == 3) || x != (api.Token{Kind: kind, Text: word + quoted, Num: num}) {
			t.Errorf("%#v: %v", v, x)
		}
	}
}
