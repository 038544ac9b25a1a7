package page

import (
	"strings"

	"speculum/api"
	"speculum/aspath"
	"speculum/filter"
	"speculum/octet"
	"speculum/prefix"
	"speculum/regex"
)

// unsaid is what Pref and Med are where nothing is said.
const unsaid = -1

// Route is an entry as a line.
func Route(x api.Entry) string {
	a := x.Attrs
	l := []string{prefix.Text(x.Prefix), "from", octet.Text(x.From), "next", prefix.Addr(a.Next), "origin", octet.Text(a.Origin)}
	if a.Pref != unsaid {
		l = append(l, "pref", octet.Text(a.Pref))
	}
	if a.Med != unsaid {
		l = append(l, "med", octet.Text(a.Med))
	}
	if len(a.Comms) > 0 {
		l = append(l, "comm", commTexts(a.Comms))
	}
	l = append(l, "path")
	if path := aspath.Text(a.Path); path != "" {
		l = append(l, path)
	}
	return strings.Join(l, " ")
}

func commTexts(comms []uint32) string {
	var l []string
	for _, c := range comms {
		l = append(l, filter.Comm(c))
	}
	return strings.Join(l, ",")
}

// Fits tells whether an entry is asked for.
func Fits(q api.Query, x api.Entry) bool { return asked(q)(x) }

// asked tells of entries whether they are asked for. The pattern is parsed once for all of them; of one that is none
// nothing is told, and that matches nothing.
func asked(q api.Query) func(x api.Entry) bool {
	pattern, _ := regex.Parse(q.Regex)
	return func(x api.Entry) bool {
		return pattern.Match(aspath.Flat(x.Attrs.Path)) && filter.All(x.Attrs.Comms, q.Comms)
	}
}
