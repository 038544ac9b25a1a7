package query

import (
	"speculum/api"
	"speculum/filter"
	"speculum/lex"
	"speculum/prefix"
	"speculum/regex"
)

// words is those of a line that were not read yet.
type words []any

// take takes the next word, and tells whether there is one, of that kind.
func take[T any](w *words) (T, bool) {
	if len(*w) == 0 {
		return *new(T), false
	}
	v, ok := (*w)[0].(T)
	*w = (*w)[1:]
	return v, ok
}

// name takes a word that says what something is. No such word is empty, so that this says that there is none.
func (w *words) name() string {
	s, _ := take[lex.Word](w)
	return string(s)
}

// request reads a line from its first word on.
func (w *words) request() (api.Query, api.Errno) {
	switch w.name() {
	case "show":
		return w.show()
	case "next":
		return w.next(api.QNext)
	case "close":
		return w.next(api.QClose)
	case "soft":
		return w.soft()
	case "shutdown":
		return api.Query{Kind: api.QStop}, api.OK
	case "stat":
		return api.Query{Kind: api.QStat}, api.OK
	}
	return api.Query{}, api.EUNKNOWN
}

// show reads what is to be shown.
func (w *words) show() (api.Query, api.Errno) {
	q := api.Query{Kind: api.QShow}
	e := w.mode(&q)
	// The empty pattern is one, too, so that it takes more than the request to know whether there was one.
	path := false
	for e == api.OK && len(*w) > 0 {
		switch name := w.name(); {
		case name == "in" && q.Table == api.TLoc:
			q.Table = api.TIn
			e = w.number(&q.Peer)
		case name == "out" && q.Table == api.TLoc:
			q.Table = api.TOut
			e = w.number(&q.Peer)
		case name == "path" && !path:
			path = true
			e = w.pattern(&q)
		case name == "community" && len(q.Comms) < mostComms:
			e = w.community(&q)
		default:
			e = api.EFORM
		}
	}
	return q, e
}

// mode reads which prefixes are to be shown.
func (w *words) mode(q *api.Query) api.Errno {
	switch w.name() {
	case "all":
		q.Mode = api.Longer
		return api.OK
	case "exact":
		q.Mode = api.Exact
	case "longer":
		q.Mode = api.Longer
	case "shorter":
		q.Mode = api.Shorter
	default:
		return api.EFORM
	}
	p, ok := prefix.Parse(w.name())
	if !ok {
		return api.EPREFIX
	}
	q.Prefix = p
	return api.OK
}

// number reads a number.
func (w *words) number(n *int) api.Errno {
	v, ok := take[lex.Num](w)
	if !ok {
		return api.EFORM
	}
	*n = int(v)
	return api.OK
}

// pattern reads a quoted pattern.
func (w *words) pattern(q *api.Query) api.Errno {
	s, ok := take[lex.Quoted](w)
	if !ok {
		return api.EFORM
	}
	if _, e := regex.Parse(string(s)); e != api.OK {
		return api.EREGEX
	}
	q.Regex = string(s)
	return api.OK
}

// community reads one more community.
func (w *words) community(q *api.Query) api.Errno {
	c, ok := filter.ParseComm(w.name())
	if !ok {
		return api.EFORM
	}
	q.Comms = append(q.Comms, c)
	return api.OK
}

// next reads a cursor's number, of what goes on or is to be closed.
func (w *words) next(kind int) (api.Query, api.Errno) {
	q := api.Query{Kind: kind}
	e := w.number(&q.Cursor)
	return q, e
}

// soft reads whose rules are to count.
func (w *words) soft() (api.Query, api.Errno) {
	q := api.Query{Kind: api.QSoft}
	switch w.name() {
	case "in":
	case "out":
		q.Out = true
	default:
		return q, api.EFORM
	}
	e := w.number(&q.Peer)
	return q, e
}
