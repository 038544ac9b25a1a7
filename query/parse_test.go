package query_test

import (
	"strings"
	"testing"

	"speculum/api"
	"speculum/query"
)

// P25.1: lines.

func TestShow(t *testing.T) {
	const ten = "10.0.0.0/8"
	for line, want := range map[string]api.Query{
		"show exact 10.0.0.0/8":         shown(api.Exact, ten),
		"show longer 10.0.0.0/8":        shown(api.Longer, ten),
		"show shorter 10.0.0.0/8":       shown(api.Shorter, ten),
		"show exact 0.0.0.0/0":          shown(api.Exact, "0.0.0.0/0"),
		"show longer 0.0.0.0/0":         all(),
		"show shorter 0.0.0.0/0":        shown(api.Shorter, "0.0.0.0/0"),
		"show all":                      all(),
		"show exact 10.1.2.3/32":        shown(api.Exact, "10.1.2.3/32"),
		"show exact 255.255.255.255/32": shown(api.Exact, "255.255.255.255/32"),
		"show shorter 128.0.0.0/1":      shown(api.Shorter, "128.0.0.0/1"),
		"   show   exact  10.0.0.0/8 ":  shown(api.Exact, ten),
		" show all  ":                   all(),
	} {
		is(t, line, want)
	}
	is(t, `show longer 10.0.0.0/8 path "^1" community no-export`, shown(api.Longer, ten, path("^1"), comms(noExport)))
}

func TestTables(t *testing.T) {
	for line, want := range map[string]api.Query{
		"show all in 0":                     all(in(0)),
		"show all out 0":                    all(out(0)),
		"show all in 5":                     all(in(5)),
		"show all out 4294967295":           all(out(most)),
		"show exact 10.0.0.0/8 in 6":        shown(api.Exact, "10.0.0.0/8", in(6)),
		"show shorter 10.0.0.0/8 out 1":     shown(api.Shorter, "10.0.0.0/8", out(1)),
		"show longer 10.0.0.0/8   in   100": shown(api.Longer, "10.0.0.0/8", in(100)),
	} {
		is(t, line, want)
	}
	// Once at most in all, also of peer 0.
	none(t, api.EFORM,
		"show all in 1 in 1", "show all in 0 in 0", "show all out 1 out 1", "show all out 0 out 0", "show all in 1 in 2", "show all in 1 out 1", "show all out 0 in 0", "show all in 0 out 0",
		`show all in 0 path "1" in 0`, `show all out 0 community no-export out 1`, "show all in 1 in", "show all in out", "show all in in 1", "show all in out 1",
		// What is no number.
		"show all in", "show all out", "show all in x", "show all out 01", "show all in -1", "show all in 4294967296", "show all out +1", "show all in 1.0", `show all in "1"`, `show all out ""`, "show all in 10.0.0.0/8", "show all in 00", "show all out 1e3",
		"show all in 1 2", "show all 1", "show all 1 in", "show all table 1", "show all inn 1", "show all In 1", "show all OUT 1", `show all "in" 1`, "show all loc", "show all in1",
	)
}

func TestPatterns(t *testing.T) {
	for line, want := range map[string]api.Query{
		`show all path "1"`:                         all(path("1")),
		`show all path "^1 (2|3)*$"`:                all(path("^1 (2|3)*$")),
		`show exact 10.0.0.0/8 path "[1-3]"`:        shown(api.Exact, "10.0.0.0/8", path("[1-3]")),
		`show all path ""`:                          all(),
		`show all path " "`:                         all(path(" ")),
		`show all path "  1_ "`:                     all(path("  1_ ")),
		`show all path "|"`:                         all(path("|")),
		`show all path "` + long(100) + `"`:         all(path(long(100))),
		`show all path "4294967295"`:                all(path("4294967295")),
		`show all   path   "$"  `:                   all(path("$")),
		`show all path "[^ 1, 2-3]+" in 2`:          all(path("[^ 1, 2-3]+"), in(2)),
		`show all path "` + long(99) + `" out 3`:    all(path(long(99)), out(3)),
		`show shorter 10.0.0.0/8 path "()" in 0   `: shown(api.Shorter, "10.0.0.0/8", path("()"), in(0)),
	} {
		is(t, line, want)
	}
	none(t, api.EREGEX,
		`show all path "("`, `show all path ")"`, `show all path "*"`, `show all path "01"`, `show all path "4294967296"`, `show all path "a"`, `show all path "[]"`, `show all path "[2-1]"`, `show all path "1 -2"`, `show all path "\""`, `show all path "\\"`, `show all path "ä"`, `show exact 10.0.0.0/8 path "{1}"`,
		`show all path "1(" in 1`,
		// One that is too long is none, either.
		`show all path "`+long(101)+`"`, `show all path "`+long(102)+`"`, `show all path "`+long(180)+`"`, `show all path "`+strings.Repeat("(", 101)+`"`,
	)
	none(t, api.EFORM,
		"show all path", "show all path 1", "show all path ^1", "show all path (", "show all path in 1", "show all path path", `show all path path "1"`, `show all path 1 "1"`, "show all path no-export", "show all path 10.0.0.0/8",
		`show all "1"`, `show all "1" path`, `show all path "1" "1"`, `show all path "1" 1`, `show all "path" "1"`, `show all Path "1"`,
		// Once: also behind the empty one, and whatever comes then.
		`show all path "1" path "1"`, `show all path "1" path "2"`, `show all path "" path ""`, `show all path "" path "1"`, `show all path "1" path ""`, `show all path "1" path`, `show all path "1" path "("`, `show all path "" path "("`, `show all path "1" path 1`, `show all path "1" in 1 path "1"`,
	)
}

func TestCommunities(t *testing.T) {
	for line, want := range map[string]api.Query{
		"show all community no-export":                                                 all(comms(noExport)),
		"show all community no-advertise":                                              all(comms(noAdvertise)),
		"show all community local-as":                                                  all(comms(localAS)),
		"show all community 65001:7":                                                   all(comms(65001<<16 | 7)),
		"show all community 0:0":                                                       all(comms(0)),
		"show all community 65535:65535":                                               all(comms(most)),
		"show all community 0:1 community 0:2":                                         all(comms(1, 2)),
		"show all community 0:2 community 0:1 community 0:2":                           all(comms(2, 1, 2)),
		"show all community 0:4 community 0:3 community 0:2 community 0:1":             all(comms(4, 3, 2, 1)),
		"show all community 0:1 community 0:1 community 0:1 community 0:1":             all(comms(1, 1, 1, 1)),
		"show all community 0:1 in 1 community 0:2 community 0:3 community no-export ": all(in(1), comms(1, 2, 3, noExport)),
	} {
		is(t, line, want)
	}
	four := "show all" + strings.Repeat(" community 1:1", 4)
	is(t, four, all(comms(65537, 65537, 65537, 65537)))
	is(t, four+` path "1"`, all(comms(65537, 65537, 65537, 65537), path("1")))
	none(t, api.EFORM,
		// Five, also where what stands behind is none.
		four+" community 1:1", four+" community no-export", four+" community", four+" community x", four+` in 1 community 1:1`, four+" 1:1",
		"show all community", "show all community x", "show all community 1", "show all community 1:", "show all community :1", "show all community 65536:1", "show all community 1:65536", "show all community 01:1", "show all community 1:1:1", "show all community 65535:65281", "show all community no-Export", "show all community No-export", `show all community "no-export"`, `show all community "1:1"`, "show all community in 1", "show all community community", "show all community community 1:1", "show all community 1:1 2:2", "show all community 1:1,2:2", "show all 1:1", "show all no-export", `show all "community" 1:1`, "show all Community 1:1", "show all comm 1:1", "show all community 4294967295", "show all community 65001;7", "show all community -1:1",
		"show all community 1:1 community", "show all community 1:1 community 7",
	)
}

// in or out, path and community stand in any order.
func TestAnyOrder(t *testing.T) {
	parts := []string{" in 3", ` path "1 2"`, " community 0:1", " community no-export"}
	lines := map[string]bool{}
	var on func(line string, left []string)
	on = func(line string, left []string) {
		if len(left) == 0 {
			lines[line] = true
		}
		for i, s := range left {
			var rest []string
			rest = append(append(rest, left[:i]...), left[i+1:]...)
			on(line+s, rest)
		}
	}
	on("show longer 10.0.0.0/8", parts)
	if len(lines) != 24 {
		t.Error(len(lines))
	}
	for line := range lines {
		// Communities stay in the order in which they stand.
		l := comms(1, noExport)
		if strings.Index(line, "no-export") < strings.Index(line, "0:1") {
			l = comms(noExport, 1)
		}
		is(t, line, shown(api.Longer, "10.0.0.0/8", in(3), path("1 2"), l))
	}
	// But not ahead of what is to be shown.
	none(t, api.EFORM, "show in 3 all", "show in 3", `show path "1" all`, "show community 0:1 exact 10.0.0.0/8", "show 10.0.0.0/8", "show 10.0.0.0/8 exact")
	none(t, api.EPREFIX, "show exact in 3 10.0.0.0/8", `show longer path "1" 10.0.0.0/8`, "show shorter community 0:1 10.0.0.0/8")
}

func TestNoPrefix(t *testing.T) {
	for _, mode := range []string{"exact", "longer", "shorter"} {
		ahead := "show " + mode
		none(t, api.EPREFIX,
			ahead, ahead+"  ", ahead+" x", ahead+" 10", ahead+" 10.0.0.0", ahead+" 10.0.0.0/", ahead+" 10.0.0.0/33", ahead+" 10.0.0.0/-1", ahead+" 10.0.0.1/8", ahead+" 10.0.0/8", ahead+" 010.0.0.0/8", ahead+" 10.0.0.0/08", ahead+" 256.0.0.0/8", ahead+" /8", ahead+" 10.0.0.0 /8", ahead+" 10.0.0.0/8/8", ahead+" 0.0.0.1/0", ahead+" ::/0",
			// What is quoted is no word.
			ahead+` "10.0.0.0/8"`, ahead+` ""`, ahead+" all", ahead+" exact", ahead+" exact 10.0.0.0/8", ahead+" in 1", ahead+" 4294967295", ahead+` path "1"`,
		)
	}
}

func TestNoMode(t *testing.T) {
	none(t, api.EFORM,
		"show", " show ", "show x", "show Exact 10.0.0.0/8", "show EXACT 10.0.0.0/8", "show long 10.0.0.0/8", "show exact, 10.0.0.0/8", "show 1", "show 10.0.0.0/8", `show "exact" 10.0.0.0/8`, `show "all"`, `show ""`, "show All", "show show", "show stat", "show in 1", "show next 1",
		"show all all", "show all 10.0.0.0/8", "show all exact 10.0.0.0/8", "show exact 10.0.0.0/8 all", "show exact 10.0.0.0/8 10.0.0.0/8", "show exact 10.0.0.0/8 x", `show exact 10.0.0.0/8 ""`, "show exact 10.0.0.0/8 longer 10.0.0.0/8", "show all show all", "show all stat",
	)
}

func TestOthers(t *testing.T) {
	for line, want := range map[string]api.Query{
		"next 1": next(1), "next 0": next(0), "next 4294967295": next(most), "  next   12 ": next(12),
		"close 1": shut(1), "close 0": shut(0), "close 4294967295": shut(most), " close  3  ": shut(3),
		"soft in 0": soft(0, false), "soft out 0": soft(0, true), "soft in 5": soft(5, false), "soft out 4294967295": soft(most, true), " soft  out  1 ": soft(1, true),
		"shutdown": stop, "  shutdown  ": stop, "stat": stat, " stat ": stat,
	} {
		is(t, line, want)
	}
	for _, name := range []string{"next", "close", "soft in", "soft out"} {
		none(t, api.EFORM, name, name+" x", name+" -1", name+" 01", name+" 4294967296", name+" 99999999999999999999", name+` "1"`, name+` ""`, name+" 1 1", name+" 1 x", name+` 1 ""`, name+" in", name+" 1:1", name+" 1.", name+" all", name+" 1 "+name+" 1")
	}
	none(t, api.EFORM,
		"soft", "soft 1", "soft x 1", "soft in", "soft out", "soft IN 1", "soft Out 1", `soft "in" 1`, "soft in out 1", "soft out in 1", "soft in 1 out 1", "soft 1 in", "soft all", "soft both 1",
		"shutdown 1", "shutdown x", "shutdown shutdown", `shutdown ""`, "shutdown now", "stat 1", "stat x", "stat stat", `stat ""`, "stat all", "next next 1", "close next 1",
	)
}

func TestUnknown(t *testing.T) {
	none(t, api.EUNKNOWN,
		"", " ", "      ", strings.Repeat(" ", 200),
		"x", "1", "0 show all", "x show all", "Show all", "SHOW all", "shows all", "sho all", "show, all", `"show" all`, `"stat"`, `""`, `"" stat`, `"shutdown"`, "Stat", "STAT", "statt", "sta", "Next 1", "nextt 1", "next1", "closed 1", "Close 1", "Soft in 1", "softly", "Shutdown", "shut", "shut down", "shutdown.", "stop", "quit", "help", "?", "all", "exact 10.0.0.0/8", "in 1", "10.0.0.0/8", "path", "community", "ſhow all", "show\u00a0all", "\\show all", "more", "end", "4294967296", "-1",
	)
}

func TestErrorsOfTheScan(t *testing.T) {
	// A line that is too long, whatever else it is.
	fill := func(s string, n int) string { return s + strings.Repeat(" ", n-len(s)) }
	is(t, fill("stat", 200), stat)
	is(t, fill(`show all path "`+long(100)+`"`, 200), all(path(long(100))))
	none(t, api.ELONG, fill("stat", 201), fill("show all", 5000), fill("x", 201), fill("", 201), fill("show all \xff", 201), strings.Repeat("\"", 201), `show all path "`+long(185)+`"`, `show all path "(`+long(185)+`"`, "show exact "+strings.Repeat("x", 200))
	is(t, "stat"+strings.Repeat(" ", 196), stat)
	none(t, api.EFORM,
		"stat\n", "\tstat", "show\tall", "stat\x00", "stat\x7f", "st\xffat", "\xff", "\n", "x\n", "stat \xc3", "show exact x\n", "show exact 10.0.0.0/8\r",
		`"`, `show all path "`, `show all path "1`, `show all path "1"x`, `show all path"1"`, `show all path "1""2"`, `show all path "\1"`, `show all path "(\n"`, `show exact "`, `x "`, `x"`, `sh"ow`, `stat "\`, "show all path \"1\n\"", "show all path \"(\xff\"", fill("x\"", 200),
	)
}

// P25.1: the first error, word by word.

func TestTheFirstError(t *testing.T) {
	none(t, api.EPREFIX, `show exact x path "("`, `show exact x in x`, `show exact "(" path "("`, "show exact community x", `show longer path "(" x`, "show exact", `show exact 1 "(" x`)
	none(t, api.EREGEX, `show all path "(" in x`, `show all path "(" x`, `show all path "(" path "("`, `show all path "(" in 1 in 1`, `show all in 1 path "(" in 1`, `show all path "(" community`, `show exact 10.0.0.0/8 path "(" 1`, `show all path "(" ""`)
	none(t, api.EFORM, `show all in x path "("`, `show all in 1 in 1 path "("`, `show all x path "("`, `show all path 1 path "("`, `show all community x path "("`, `show x exact x`, `show x path "("`, `show all "(" path "("`, `show all in "("`, `show all community "("`, `show all "("`, `soft in "("`, `next "("`, `next x`, "next exact x", "soft exact x", "stat exact x", "shutdown show exact x")
	none(t, api.EUNKNOWN, `x path "("`, "x exact x", "1 2 3", `path "("`, `"(" show exact x`)
	// Faults of the scan come ahead of all, wherever they stand.
	none(t, api.EFORM, "x \"", "show exact x \"", "show all path \"(\" \"", "x y\n", "show exact x\t")
	none(t, api.ELONG, "x"+strings.Repeat(" ", 200), "show exact x"+strings.Repeat(" ", 200), `show all path "("`+strings.Repeat(" ", 200), "stat \n\""+strings.Repeat(" ", 200))
}

// P25.2: Same.

func TestSame(t *testing.T) {
	base := api.Query{Kind: 1, Mode: 2, Prefix: parse("10.0.0.0/8"), Table: 1, Peer: 3, Regex: "1", Comms: []uint32{1, 2}, Cursor: 4, Out: true}
	changes := map[string]func(*api.Query){
		"nothing":                  func(q *api.Query) {},
		"the kind":                 func(q *api.Query) { q.Kind = 2 },
		"the mode":                 func(q *api.Query) { q.Mode = 1 },
		"the prefix's number":      func(q *api.Query) { q.Prefix.Addr++ },
		"the prefix's length":      func(q *api.Query) { q.Prefix.Len++ },
		"the table":                func(q *api.Query) { q.Table = 2 },
		"the peer":                 func(q *api.Query) { q.Peer = 0 },
		"the pattern":              func(q *api.Query) { q.Regex = "1 " },
		"no pattern":               func(q *api.Query) { q.Regex = "" },
		"no communities":           func(q *api.Query) { q.Comms = nil },
		"less communities":         func(q *api.Query) { q.Comms = q.Comms[:1] },
		"more communities":         func(q *api.Query) { q.Comms = []uint32{1, 2, 2} },
		"communities turned round": func(q *api.Query) { q.Comms = []uint32{2, 1} },
		"other communities":        func(q *api.Query) { q.Comms = []uint32{1, 3} },
		"the cursor":               func(q *api.Query) { q.Cursor = -4 },
		"out":                      func(q *api.Query) { q.Out = false },
	}
	for a, change := range changes {
		for b, other := range changes {
			x, y := base, base
			change(&x)
			other(&y)
			if got := query.Same(x, y); got != (a == b) {
				t.Errorf("%s, %s: %v", a, b, got)
			}
		}
	}
	if !query.Same(api.Query{}, api.Query{}) || query.Same(base, api.Query{}) || query.Same(api.Query{}, base) {
		t.Error("of none")
	}
	// Rule 3.
	if !query.Same(api.Query{Comms: []uint32{}}, api.Query{}) || !query.Same(api.Query{}, api.Query{Comms: []uint32{}}) {
		t.Error("nil and empty")
	}
	other := base
	other.Comms = []uint32{1, 2}
	if !query.Same(base, other) {
		t.Error("lists of their own")
	}
}
