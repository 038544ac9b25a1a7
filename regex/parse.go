package regex

import (
	"strings"

	"speculum/octet"
)

// signs is all that a text may have beside digits; each sign has one byte.
const signs = " _.^$*+?|()[],-"

// What a token says that is no sign of the text: that there is a number, that there is none any more.
const (
	digits = '0'
	over   = 0
)

// token is a sign, or a number.
type token struct {
	sign rune
	num  uint32
}

// scan tells a text's tokens. Blanks stay, since a set's two numbers have none between.
func scan(s string) ([]token, bool) {
	var out []token
	from := 0
	// The blank behind ends a number that stands at the text's end, and says nothing else.
	for i, c := range s + " " {
		if c >= '0' && c <= '9' {
			continue
		}
		if i > from {
			n, ok := octet.Int(s[from:i])
			if !ok {
				return nil, false
			}
			out = append(out, token{digits, uint32(n)})
		}
		if !strings.ContainsRune(signs, c) {
			return nil, false
		}
		out = append(out, token{sign: plain(c)})
		from = i + 1
	}
	return out, true
}

// plain is the sign that says the same.
func plain(c rune) rune {
	if c == '_' {
		return ' '
	}
	return c
}

// reader goes through tokens. Once something is wrong, nothing is left, so that it comes to its end.
type reader struct {
	rest  []token
	wrong bool
}

// parse is what a text says, as choices.
func parse(s string) (piece, bool) {
	l, ok := scan(s)
	if !ok {
		return piece{}, false
	}
	r := &reader{rest: l}
	all := r.choices()
	r.want(len(r.rest) == 0)
	return all, !r.wrong
}

// want ends the reading, unless what must be so is.
func (r *reader) want(is bool) {
	if !is {
		r.wrong, r.rest = true, nil
	}
}

// sign is the one that comes next.
func (r *reader) sign() rune {
	if len(r.rest) == 0 {
		return over
	}
	return r.rest[0].sign
}

// next goes by a token.
func (r *reader) next() token {
	if len(r.rest) == 0 {
		return token{}
	}
	t := r.rest[0]
	r.rest = r.rest[1:]
	return t
}

// pass goes by a sign, if it is there.
func (r *reader) pass(sign rune) bool {
	if r.sign() != sign {
		return false
	}
	r.next()
	return true
}

// skip goes by all that come next of some signs.
func (r *reader) skip(which string) {
	for strings.ContainsRune(which, r.sign()) {
		r.next()
	}
}

func (r *reader) choices() piece {
	out := piece{kind: choices, parts: []piece{r.row()}}
	for r.pass('|') {
		out.parts = append(out.parts, r.row())
	}
	return out
}

func (r *reader) row() piece {
	out := piece{kind: row}
	for {
		r.skip(" ")
		switch r.sign() {
		case over, '|', ')':
			return out
		}
		out.parts = append(out.parts, r.part())
	}
}

func (r *reader) part() piece {
	out := r.atom()
	for {
		r.skip(" ")
		kind := 0
		switch r.sign() {
		case '*':
			kind = often
		case '+':
			kind = once
		case '?':
			kind = perhaps
		default:
			return out
		}
		r.next()
		out = piece{kind: kind, parts: []piece{out}}
	}
}

func (r *reader) atom() piece {
	t := r.next()
	switch t.sign {
	case digits:
		return piece{kind: number, spans: []span{{t.num, t.num}}}
	case '.':
		return piece{kind: point}
	case '^':
		return piece{kind: begin}
	case '$':
		return piece{kind: end}
	case '(':
		out := r.choices()
		r.want(r.pass(')'))
		return out
	case '[':
		return r.set()
	}
	r.want(false)
	return piece{}
}

func (r *reader) set() piece {
	r.skip(" ")
	out := piece{kind: set, not: r.pass('^')}
	r.skip(" ,")
	for r.sign() == digits {
		out.spans = append(out.spans, r.span())
		r.skip(" ,")
	}
	r.want(r.pass(']') && len(out.spans) > 0)
	return out
}

func (r *reader) span() span {
	from := r.next().num
	if !r.pass('-') {
		return span{from, from}
	}
	r.want(r.sign() == digits)
	to := r.next().num
	r.want(from <= to)
	return span{from, to}
}
