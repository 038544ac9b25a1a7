package regex

import (
	"slices"
	"strings"

	"speculum/octet"
)

// Kinds of pieces.
const (
	choices = iota
	row
	number
	point
	set
	begin
	end
	often
	once
	perhaps
)

// span is the numbers from one to another one, both among them.
type span struct{ from, to uint32 }

// piece is a part of a pattern, or the whole.
type piece struct {
	kind  int
	not   bool    // a set's: it takes what is in none of its spans
	spans []span  // a number's (one), a set's
	parts []piece // rows of choices, parts of a row, the one that is repeated
}

// takes tells whether a piece that takes one number takes this one.
func (p piece) takes(n uint32) bool {
	return p.kind == point || p.not != slices.ContainsFunc(p.spans, func(s span) bool { return s.from <= n && n <= s.to })
}

// text is a piece as a text.
func (p piece) text() string {
	switch p.kind {
	case choices:
		return "(" + p.inner() + ")"
	case row:
		return joined(p.parts, piece.text, " ")
	case number:
		return p.spans[0].text()
	case point:
		return "."
	case set:
		return opening(p.not) + joined(p.spans, span.text, " ") + "]"
	case begin:
		return "^"
	case end:
		return "$"
	case often:
		return p.parts[0].text() + "*"
	case once:
		return p.parts[0].text() + "+"
	}
	return p.parts[0].text() + "?"
}

// inner is choices without the signs around them, as those of a whole pattern are written.
func (p piece) inner() string { return joined(p.parts, piece.text, "|") }

// opening is what a set begins with.
func opening(not bool) string {
	if not {
		return "[^"
	}
	return "["
}

// text is a member of a set as a text.
func (s span) text() string {
	if s.from == s.to {
		return octet.Text(int(s.from))
	}
	return octet.Text(int(s.from)) + "-" + octet.Text(int(s.to))
}

// joined is the texts of some, with a sign between.
func joined[T any](l []T, text func(T) string, sign string) string {
	var out []string
	for _, x := range l {
		out = append(out, text(x))
	}
	return strings.Join(out, sign)
}
