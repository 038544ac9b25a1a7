package query_test

import (
	"regexp"
	"strings"
	"testing"

	"speculum/api"
	"speculum/filter"
	"speculum/lex"
	"speculum/octet"
	"speculum/prefix"
	"speculum/query"
	"speculum/regex"
)

// grammar tells what is a line in a second way: by what its words, a sign each, look like; the first error by where no
// line begins so any more.
type grammar struct {
	whole *regexp.Regexp
	known map[string]bool
}

func newGrammar() grammar {
	return grammar{regexp.MustCompile(`^(?:s(?:mP|a)((?:iN|pQ|yC)*)|[nc]N|oiN|x|t)$`), map[string]bool{}}
}

// sign is what a word is: each word has one sign alone.
func sign(k api.Token) string {
	names := map[string]string{"show": "s", "next": "n", "close": "c", "soft": "o", "shutdown": "x", "stat": "t", "exact": "m", "longer": "m", "shorter": "m", "all": "a", "in": "i", "out": "i", "path": "p", "community": "y"}
	_, isPrefix := prefix.Parse(k.Text)
	_, isComm := filter.ParseComm(k.Text)
	_, e := regex.Parse(k.Text)
	switch {
	case k.Kind == api.TNum:
		return "N"
	case k.Kind == api.TQuoted && e == api.OK:
		return "Q"
	case k.Kind == api.TQuoted:
		return "q"
	case names[k.Text] != "":
		return names[k.Text]
	case isPrefix:
		return "P"
	case isComm:
		return "C"
	}
	return "w"
}

// isLine tells whether signs are a line.
func (g grammar) isLine(signs string) bool {
	l := g.whole.FindStringSubmatch(signs)
	return l != nil && strings.Count(l[1], "i") <= 1 && strings.Count(l[1], "p") <= 1 && strings.Count(l[1], "y") <= 4
}

// begins tells whether a line begins so.
func (g grammar) begins(signs string) bool {
	is, known := g.known[signs]
	for _, behind := range []string{"", "a", "N", "P", "Q", "C", "iN"} {
		is = is || !known && g.isLine(signs+behind)
	}
	g.known[signs] = is
	return is
}

// why is what is wrong with words.
func (g grammar) why(signs string) api.Errno {
	if g.isLine(signs) {
		return api.OK
	}
	ahead := 0
	for ahead < len(signs) && g.begins(signs[:ahead+1]) {
		ahead++
	}
	good, wrong := signs[:ahead], signs[ahead:]
	switch {
	case ahead == 0:
		return api.EUNKNOWN
	case g.begins(good + "P"):
		return api.EPREFIX
	case g.begins(good+"Q") && strings.HasPrefix(wrong, "q"):
		return api.EREGEX
	}
	return api.EFORM
}

// request is what the words of a line say.
func request(l []api.Token) api.Query {
	kinds := map[string]int{"show": 1, "next": 2, "close": 3, "soft": 4, "shutdown": 5, "stat": 6}
	q := api.Query{Kind: kinds[l[0].Text]}
	for i, k := range l {
		var behind api.Token
		if i+1 < len(l) {
			behind = l[i+1]
		}
		if k.Kind != api.TWord {
			continue
		}
		switch k.Text {
		case "all":
			q.Mode = 2
		case "exact", "longer", "shorter":
			q.Mode = map[string]int{"exact": 1, "longer": 2, "shorter": 3}[k.Text]
			q.Prefix = parse(behind.Text)
		case "in", "out":
			q.Peer = behind.Num
			if q.Kind == 4 {
				q.Out = k.Text == "out"
			} else {
				q.Table = map[string]int{"in": 1, "out": 2}[k.Text]
			}
		case "next", "close":
			q.Cursor = behind.Num
		case "path":
			q.Regex = behind.Text
		case "community":
			c, _ := filter.ParseComm(behind.Text)
			q.Comms = append(q.Comms, c)
		}
	}
	return q
}

// holds holds what a line is parsed to against the words of P25.1.
func (g grammar) holds(t *testing.T, line string) (api.Query, api.Errno) {
	t.Helper()
	got, e := query.Parse(line)
	l, wrong := lex.Scan(line)
	var want api.Query
	if wrong == api.OK {
		signs := ""
		tokens := lex.Tokens(l)
		for _, k := range tokens {
			signs += sign(k)
		}
		if wrong = g.why(signs); wrong == api.OK {
			want = request(tokens)
		}
	}
	if e != wrong || !query.Same(got, want) {
		t.Fatalf("%q: %+v, %d; not %+v, %d", line, got, e, want, wrong)
	}
	return got, e
}

// pieces is words, some of each sign.
var pieces = []string{"show", "next", "close", "soft", "shutdown", "stat", "exact", "longer", "shorter", "all", "in", "out", "path", "community", "0", "7", "10.0.0.0/8", "0.0.0.0/0", "65001:7", "no-export", `"1"`, `""`, `"("`, `"10.0.0.0/8"`, "x"}

// All lines of a few words, and longer ones that begin as lines do.
func TestAsTheWordsSay(t *testing.T) {
	g := newGrammar()
	count := map[api.Errno]int{}
	var on func(line string, l []string, left int)
	on = func(line string, l []string, left int) {
		_, e := g.holds(t, line)
		count[e]++
		for _, s := range l {
			if left > 0 {
				on(line+" "+s, l, left-1)
			}
		}
	}
	on("", pieces, 3)
	few := []string{"show", "all", "in", "out", "path", "community", "7", "10.0.0.0/8", "1:1", `"1"`, `"("`}
	for _, s := range []string{"show all", "show exact", "show longer 10.0.0.0/8", "show all in 0", `show all path ""`, "show all community 1:1 community 1:1 community 1:1", "next", "close 1", "soft", "soft out 1", "stat"} {
		on(s, few, 3)
	}
	for _, e := range []api.Errno{api.OK, api.EFORM, api.EUNKNOWN, api.EPREFIX, api.EREGEX} {
		if count[e] < 40 {
			t.Error(count)
		}
	}
}

// By chance: lines, in which a word is left out, put in, or another one; whole ones are told by Text as they were.
func TestLinesByChance(t *testing.T) {
	g, x := newGrammar(), chance(25)
	count := map[api.Errno]int{}
	for range 60000 {
		l := line(&x)
		for range x.below(3) {
			i := x.below(len(l))
			switch x.below(3) {
			case 0:
				l[i] = pick(&x, pieces...)
			case 1:
				l = append(l[:i:i], l[i+1:]...)
			default:
				l = append(l[:i:i], append([]string{pick(&x, pieces...)}, l[i:]...)...)
			}
			if len(l) == 0 {
				break
			}
		}
		text := strings.Join(l, pick(&x, " ", " ", "  "))
		q, e := g.holds(t, text)
		count[e]++
		if e == api.OK {
			again(t, q)
		}
	}
	for _, e := range []api.Errno{api.OK, api.EFORM, api.EUNKNOWN, api.EPREFIX, api.EREGEX, api.ELONG} {
		if count[e] < 50 {
			t.Error(count)
		}
	}
}

// line is the words of a line.
func line(x *chance) []string {
	number := func() string { return octet.Text(pick(x, 0, 1, 5, 6, 100, most)) }
	switch x.below(12) {
	case 0:
		return []string{"next", number()}
	case 1:
		return []string{"close", number()}
	case 2:
		return []string{"soft", pick(x, "in", "out"), number()}
	case 3:
		return []string{pick(x, "shutdown", "stat")}
	}
	l := []string{"show", "all"}
	if x.below(4) > 0 {
		n := x.below(33)
		l = []string{"show", pick(x, "exact", "longer", "shorter"), prefix.Text(prefix.Norm(uint32(*x), n))}
	}
	var options [][]string
	if x.below(2) > 0 {
		options = append(options, []string{pick(x, "in", "out"), number()})
	}
	if x.below(2) > 0 {
		options = append(options, []string{"path", `"` + pick(x, "", "1", "^1 (2|3)*$", "[^1-2]", " _", long(100)) + `"`})
	}
	for range x.below(5) {
		options = append(options, []string{"community", filter.Comm(pick(x, uint32(noExport), localAS, 0, 65537, most, uint32(*x)))})
	}
	for len(options) > 0 {
		i := x.below(len(options))
		l = append(l, options[i]...)
		options = append(options[:i:i], options[i+1:]...)
	}
	return l
}

// Rule 6: lines of any bytes, most of which are some of a line.
func TestAnyBytes(t *testing.T) {
	g, x := newGrammar(), chance(256)
	for range 20000 {
		b := []byte(strings.Join(line(&x), " "))
		for range x.below(4) {
			i := x.below(len(b))
			b[i] = pick(&x, ' ', '"', '\\', byte(x.below(256)), b[x.below(len(b))])
		}
		g.holds(t, string(b[:len(b)-x.below(2)*x.below(len(b))]))
	}
}
