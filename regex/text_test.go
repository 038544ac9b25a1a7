package regex_test

import (
	"strings"
	"testing"

	"speculum/api"
	"speculum/regex"
)

// P11.3

func TestText(t *testing.T) {
	for _, c := range []struct{ s, want string }{
		{"", ""}, {" ", ""}, {"_ _", ""}, {"|", "|"}, {" | _", "|"}, {"||", "||"}, {"()", "()"}, {"( _ )", "()"}, {"(|)", "(|)"}, {"()()", "() ()"}, {"(())", "(())"},
		{"1", "1"}, {" 1_", "1"}, {"4294967295", "4294967295"}, {"0", "0"}, {"1_2", "1 2"}, {"1  2", "1 2"}, {"1 _ 2 3", "1 2 3"}, {"^1.$", "^ 1 . $"}, {"...", ". . ."}, {"$^", "$ ^"},
		{"1|2", "1|2"}, {" 1 | 2 ", "1|2"}, {"1 2|3 4", "1 2|3 4"}, {"1||2|", "1||2|"},
		// Choices stand within ( and ), those of one row, and of one part, too; those of all do not.
		{"(1)", "(1)"}, {"((1))", "((1))"}, {"(1|2)", "(1|2)"}, {"( 1 2 | 3 )4", "(1 2|3) 4"}, {"(1)(2)", "(1) (2)"}, {"1(2)3", "1 (2) 3"}, {"(1 2)", "(1 2)"},
		// What is repeated, and more than once.
		{"1*", "1*"}, {"1 *", "1*"}, {"1_*_+ ?", "1*+?"}, {"1**", "1**"}, {"1++?", "1++?"}, {"(1*)*", "(1*)*"}, {"(1)*", "(1)*"}, {"(1 2|3)+", "(1 2|3)+"}, {"1*2+3?", "1* 2+ 3?"}, {"^*$+.?", "^* $+ .?"}, {"()*", "()*"}, {"(^)+1", "(^)+ 1"}, {"[1]*", "[1]*"},
		// Sets.
		{"[1]", "[1]"}, {"[ 1 ]", "[1]"}, {"[1,2]", "[1 2]"}, {"[,1,,2_3,]", "[1 2 3]"}, {"[1-2]", "[1-2]"}, {"[5-5]", "[5]"}, {"[5-5,5]", "[5 5]"}, {"[3,2,2]", "[3 2 2]"}, {"[1-9,2-3]", "[1-9 2-3]"}, {"[0-4294967295]", "[0-4294967295]"},
		{"[^1]", "[^1]"}, {"[ _^_,1-2 ,3-3]", "[^1-2 3]"}, {"[1][^2]", "[1] [^2]"},
		{"1 (2|3)*$", "1 (2|3)* $"},
	} {
		e := parse(t, c.s)
		if e.Text() != c.want || e.Size() != len(c.want) {
			t.Errorf("%q is written %q, of %d bytes", c.s, e.Text(), e.Size())
		}
	}
}

func TestTextOfNone(t *testing.T) {
	var none *regex.Expr
	if none.Text() != "" || none.Size() != 0 {
		t.Error(none.Text(), none.Size())
	}
}

// A text may be longer than what it was parsed of, and than what is parsed.
func TestTextOfTheLongest(t *testing.T) {
	e := parse(t, strings.Repeat(".", 100))
	if e.Text() != strings.Repeat(". ", 99)+"." || e.Size() != 199 {
		t.Error(e.Text(), e.Size())
	}
	if _, err := regex.Parse(e.Text()); err != api.ELONG {
		t.Error(err)
	}
}

// P11.4

func TestTextIsReadAgain(t *testing.T) {
	all := lists(3)
	again := 0
	look := func(s string) {
		e, err := regex.Parse(s)
		if err != api.OK {
			return
		}
		f, err := regex.Parse(e.Text())
		if err != api.OK || f.Text() != e.Text() || f.Size() != e.Size() {
			t.Fatalf("%q is written %q: %d, %q", s, e.Text(), err, f.Text())
		}
		again++
		for _, l := range all {
			if e.Match(l) != f.Match(l) {
				t.Fatalf("%q and %q part at %v", s, e.Text(), l)
			}
		}
	}
	each("1 *|()^", 5, look)
	each("12[]-^,", 6, look)
	each("1_.$+?(|)", 4, look)
	each("[]1_-2*", 6, look)
	if again < 10000 {
		t.Error(again)
	}
}
