package lex

import "speculum/octet"

// Where a scanner is.
const (
	between = iota // ahead of a word, or behind all
	plain          // in a word without quotes
	quoted         // within quotes
	escaped        // within quotes, behind a backslash
	closed         // behind the quote that ends
	wrong          // behind what is no word: it stays there
)

// scanner gathers words, rune by rune.
type scanner struct {
	words []any
	text  string // what the word says, as far as it has come
	state int
}

// take goes by a rune.
func (s *scanner) take(c rune) {
	switch s.state {
	case between:
		s.begin(c)
	case plain:
		s.goOn(c)
	case quoted:
		s.within(c)
	case escaped:
		s.stand(c)
	case closed:
		s.behind(c)
	}
}

// begin takes a rune that stands between words, or begins one.
func (s *scanner) begin(c rune) {
	switch c {
	case blank:
	case quote:
		s.state = quoted
	default:
		s.put(c)
		s.state = plain
	}
}

// goOn takes a rune of a word without quotes, or the blank behind it.
func (s *scanner) goOn(c rune) {
	switch c {
	case blank:
		s.end(value(s.text))
	case quote:
		s.state = wrong
	default:
		s.put(c)
	}
}

// within takes a rune within quotes, or the one that ends them.
func (s *scanner) within(c rune) {
	switch c {
	case quote:
		s.state = closed
	case backslash:
		s.state = escaped
	default:
		s.put(c)
	}
}

// stand takes the rune that a backslash stands ahead of.
func (s *scanner) stand(c rune) {
	switch c {
	case quote, backslash:
		s.put(c)
		s.state = quoted
	default:
		s.state = wrong
	}
}

// behind takes what stands behind the quote that ends.
func (s *scanner) behind(c rune) {
	if c != blank {
		s.state = wrong
		return
	}
	s.end(Quoted(s.text))
}

// put lays a rune behind what the word says.
func (s *scanner) put(c rune) { s.text += string(c) }

// end lays a word behind the others.
func (s *scanner) end(v any) {
	s.words = append(s.words, v)
	s.text = ""
	s.state = between
}

// value is what a word without quotes is.
func value(text string) any {
	if n, ok := octet.Int(text); ok {
		return Num(n)
	}
	return Word(text)
}
