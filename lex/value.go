package lex

import "speculum/api"

// Kind is of which kind a word is.
func Kind(v any) int { return token(v).Kind }

// AsWord is a word that is no number.
func AsWord(v any) (string, bool) { return word(v) }

// MustWord is a word; it panics, if it is none.
func MustWord(v any) string { return mustWord(v) }

// AsNum is a number.
func AsNum(v any) (int, bool) { return num(v) }

// MustNum is a number; it panics, if it is none.
func MustNum(v any) int { return mustNum(v) }

// AsQuoted is what was quoted.
func AsQuoted(v any) (string, bool) { return quotedText(v) }

// Tokens is words as they are told.
func Tokens(l []any) []api.Token {
	var out []api.Token
	for _, v := range l {
		out = append(out, token(v))
	}
	return out
}

func word(v any) (string, bool) {
	w, ok := v.(Word)
	return string(w), ok
}

func mustWord(v any) string { return string(v.(Word)) }

func num(v any) (int, bool) {
	n, ok := v.(Num)
	return int(n), ok
}

func mustNum(v any) int { return int(v.(Num)) }

func quotedText(v any) (string, bool) {
	q, ok := v.(Quoted)
	return string(q), ok
}

// token is a word as it is told; a zero one of what is no word.
func token(v any) api.Token {
	switch x := v.(type) {
	case Word:
		return api.Token{Kind: api.TWord, Text: string(x)}
	case Num:
		return api.Token{Kind: api.TNum, Num: int(x)}
	case Quoted:
		return api.Token{Kind: api.TQuoted, Text: string(x)}
	}
	return api.Token{}
}
