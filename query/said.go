package query

import (
	"speculum/api"
	"speculum/filter"
	"speculum/lex"
	"speculum/octet"
	"speculum/prefix"
)

// said is the words that say a request, as far as a line can say it.
func said(q api.Query) []string {
	switch q.Kind {
	case api.QShow:
		return saidShow(q)
	case api.QNext:
		return []string{"next", octet.Text(q.Cursor)}
	case api.QClose:
		return []string{"close", octet.Text(q.Cursor)}
	case api.QSoft:
		return []string{"soft", way(q.Out), octet.Text(q.Peer)}
	case api.QStop:
		return []string{"shutdown"}
	case api.QStat:
		return []string{"stat"}
	}
	return nil
}

func saidShow(q api.Query) []string {
	l := []string{"show", mode(q.Mode), prefix.Text(q.Prefix)}
	if q.Table != api.TLoc {
		l = append(l, way(q.Table == api.TOut), octet.Text(q.Peer))
	}
	if q.Regex != "" {
		// What can't be quoted is no pattern: without it the line is none.
		quoted, _ := lex.Quote(q.Regex)
		l = append(l, "path", quoted)
	}
	for _, c := range q.Comms {
		l = append(l, "community", filter.Comm(c))
	}
	return l
}

func mode(n int) string {
	switch n {
	case api.Exact:
		return "exact"
	case api.Longer:
		return "longer"
	case api.Shorter:
		return "shorter"
	}
	return ""
}

func way(out bool) string {
	if out {
		return "out"
	}
	return "in"
}
