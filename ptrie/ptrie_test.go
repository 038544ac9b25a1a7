package ptrie_test

import (
	"math"
	"slices"
	"testing"

	"speculum/api"
	"speculum/prefix"
	"speculum/ptrie"
)

const (
	ten = 10 << 24
	all = math.MaxUint32
)

func of(addr uint32, n int) api.Prefix { return api.Prefix{Addr: addr, Len: n} }

// parse is the prefix of a text.
func parse(s string) api.Prefix {
	p, ok := prefix.Parse(s)
	if !ok {
		panic("no prefix: " + s)
	}
	return p
}

// parsed is the prefixes of texts.
func parsed(texts ...string) []api.Prefix {
	var out []api.Prefix
	for _, s := range texts {
		out = append(out, parse(s))
	}
	return out
}

// made is a trie with prefixes, at each of which its place in the list stands, counted from 1 on.
func made(l ...api.Prefix) *ptrie.Trie[int] {
	t := ptrie.New[int]()
	for i, p := range l {
		t, _ = t.Put(p, i+1)
	}
	return t
}

// wrong are prefixes that are not right, each by another cause.
func wrong() []api.Prefix {
	return []api.Prefix{
		of(0, -1), of(0, 33), of(all, 33), of(all, -1), of(0, math.MaxInt), of(0, math.MinInt),
		of(1, 0), of(1<<31, 0), of(all, 31), of(1, 31), of(ten|1<<23, 8), of(ten|1, 8), of(3<<30, 1),
	}
}

// some are right prefixes, in the order of Compare: close ones, far ones, and both ends.
func some() []api.Prefix {
	return []api.Prefix{
		of(0, 0), of(0, 1), of(0, 8), of(0, 32), of(1, 32), of(ten, 7), of(ten, 8), of(ten, 9), of(ten, 32),
		of(ten|1, 32), of(ten|1<<16, 16), of(ten|2<<16, 16), of(ten|128<<16, 9), of(127<<24, 8),
		of(1<<31, 1), of(1<<31, 32), of(192<<24, 2), of(all-1, 31), of(all-1, 32), of(all, 32),
	}
}

// chain is a prefix of each length, each of which covers all behind it.
func chain(addr uint32) []api.Prefix {
	var out []api.Prefix
	for n := range 33 {
		out = append(out, prefix.Norm(addr, n))
	}
	return out
}

// whole is the prefix that covers all.
var whole = of(0, 0)

// empties are tries without prefixes, however they came to be.
func empties() map[string]*ptrie.Trie[int] {
	gone, _ := made(of(ten, 8)).Del(of(ten, 8))
	two, _ := made(of(ten, 8), of(11<<24, 8)).Del(of(ten, 8))
	two, _ = two.Del(of(11<<24, 8))
	still, _ := ptrie.New[int]().Del(whole)
	var none *ptrie.Trie[int]
	stillNone, _ := none.Del(whole)
	return map[string]*ptrie.Trie[int]{
		"nil": none, "New": ptrie.New[int](), "its zero value": {}, "one went": gone, "two went": two,
		"none went": still, "none went of nil": stillNone,
	}
}

// P9.1

func TestEmpty(t *testing.T) {
	for name, x := range empties() {
		if x.Len() != 0 || x.Nodes() != 0 {
			t.Error(name, x.Len(), x.Nodes())
		}
		for _, p := range append(some(), wrong()...) {
			if v, ok := x.Get(p); ok || v != 0 {
				t.Error(name, p, v)
			}
			if y, was := x.Del(p); was || y.Len() != 0 || y.Nodes() != 0 {
				t.Error(name, p, "went")
			}
			if l := x.Covering(p); len(l) != 0 {
				t.Error(name, p, l)
			}
			if l := x.Keys(p); len(l) != 0 {
				t.Error(name, p, l)
			}
			for _, first := range []bool{true, false} {
				if q, v, ok := x.Next(p, p, first); q != of(0, 0) || v != 0 || ok {
					t.Error(name, p, q, v)
				}
			}
		}
		for other, y := range empties() {
			if x.Apart(y) != 0 {
				t.Error(name, other)
			}
		}
		y, e := x.Put(of(ten, 8), 7)
		if v, ok := y.Get(of(ten, 8)); e != api.OK || v != 7 || !ok || y.Len() != 1 || y.Nodes() != 1 || y.Apart(x) != 1 || x.Apart(y) != 0 {
			t.Error(name, "Put", e, v, ok)
		}
	}
}

func TestPutRefuses(t *testing.T) {
	full := made(some()...)
	for _, p := range wrong() {
		for name, x := range map[string]*ptrie.Trie[int]{"nil": nil, "none": ptrie.New[int](), "some": full} {
			if y, e := x.Put(p, 5); e != api.EARG || y.Len() != 0 {
				t.Error(name, p, e, y.Len())
			}
		}
		if v, ok := full.Get(p); ok || v != 0 {
			t.Error(p, v)
		}
		if y, was := full.Del(p); was || y.Len() != full.Len() {
			t.Error(p, "went")
		}
	}
	if !slices.Equal(full.Keys(whole), some()) {
		t.Error("what was refused is there")
	}
}

func TestPutAndGet(t *testing.T) {
	eight, sixteen, other := parse("10.0.0.0/8"), parse("10.1.0.0/16"), parse("10.2.0.0/16")
	x := made(eight, sixteen)
	for p, want := range map[api.Prefix]int{eight: 1, sixteen: 2, other: 0, parse("10.0.0.0/16"): 0, parse("10.0.0.0/7"): 0, parse("10.1.0.0/17"): 0, whole: 0} {
		if v, ok := x.Get(p); v != want || ok != (want > 0) {
			t.Error(p, v, ok)
		}
	}
	// Two part at 10.0.0.0/14, where nothing stands.
	x = made(sixteen, other)
	if v, ok := x.Get(parse("10.0.0.0/14")); v != 0 || ok || x.Len() != 2 || x.Nodes() != 3 {
		t.Error(v, ok, x.Len(), x.Nodes())
	}
	if y, was := x.Del(parse("10.0.0.0/14")); was || y.Len() != 2 || y.Nodes() != 3 {
		t.Error("what is not there went")
	}
	// Then something does.
	y, e := x.Put(parse("10.0.0.0/14"), 9)
	if v, ok := y.Get(parse("10.0.0.0/14")); e != api.OK || v != 9 || !ok || y.Len() != 3 || y.Nodes() != 3 {
		t.Error(v, ok, y.Len(), y.Nodes())
	}
	// And no more.
	y, was := y.Del(parse("10.0.0.0/14"))
	if v, ok := y.Get(parse("10.0.0.0/14")); !was || v != 0 || ok || y.Len() != 2 || y.Nodes() != 3 {
		t.Error(v, ok, y.Len(), y.Nodes())
	}
}

func TestPutOnceMore(t *testing.T) {
	x := made(some()...)
	for i, p := range some() {
		y, e := x.Put(p, 100)
		if v, ok := y.Get(p); e != api.OK || v != 100 || !ok || y.Len() != x.Len() || y.Nodes() != x.Nodes() {
			t.Error(p, v, ok, y.Len())
		}
		for j, q := range some() {
			if v, ok := y.Get(q); !ok || j != i && v != j+1 {
				t.Error(p, q, v, ok)
			}
		}
		if v, _ := x.Get(p); v != i+1 {
			t.Error("the one before", p, v)
		}
	}
}

// The zero value stands at a prefix as any other one does.
func TestZeroValuesAreThere(t *testing.T) {
	x, _ := ptrie.New[[]int]().Put(of(ten, 8), nil)
	if v, ok := x.Get(of(ten, 8)); len(v) != 0 || !ok || x.Len() != 1 {
		t.Error(v, ok)
	}
	if p, v, ok := x.Next(whole, whole, true); p != of(ten, 8) || len(v) != 0 || !ok {
		t.Error(p, v, ok)
	}
	y, was := x.Del(of(ten, 8))
	if v, ok := y.Get(of(ten, 8)); !was || len(v) != 0 || ok || y.Len() != 0 {
		t.Error(v, ok)
	}
}

func TestDel(t *testing.T) {
	x := made(some()...)
	for i, p := range some() {
		y, was := x.Del(p)
		want := slices.Delete(some(), i, i+1)
		if v, ok := y.Get(p); !was || ok || v != 0 || y.Len() != len(want) || !slices.Equal(y.Keys(whole), want) {
			t.Error(p, was, v, ok, y.Len())
		}
		for j, q := range some() {
			if v, ok := y.Get(q); j != i && (v != j+1 || !ok) {
				t.Error(p, q, v, ok)
			}
		}
		if again, was := y.Del(p); was || !slices.Equal(again.Keys(whole), want) {
			t.Error(p, "went twice")
		}
	}
}

// P9.2

func TestCovering(t *testing.T) {
	x := made(parsed("10.1.0.0/16", "10.0.0.0/8", "10.2.0.0/16", "11.0.0.0/8", "10.1.2.3/32")...)
	for s, want := range map[string][]api.Prefix{
		"10.1.2.0/24":   parsed("10.0.0.0/8", "10.1.0.0/16"),
		"10.1.2.3/32":   parsed("10.0.0.0/8", "10.1.0.0/16", "10.1.2.3/32"),
		"10.1.2.4/32":   parsed("10.0.0.0/8", "10.1.0.0/16"),
		"10.1.0.0/16":   parsed("10.0.0.0/8", "10.1.0.0/16"),
		"10.0.0.0/15":   parsed("10.0.0.0/8"),
		"10.3.0.0/16":   parsed("10.0.0.0/8"),
		"10.0.0.0/8":    parsed("10.0.0.0/8"),
		"10.0.0.0/7":    nil,
		"0.0.0.0/0":     nil,
		"12.0.0.0/8":    nil,
		"138.1.2.3/32":  nil,
		"11.255.0.0/16": parsed("11.0.0.0/8"),
	} {
		if l := x.Covering(parse(s)); !slices.Equal(l, want) {
			t.Error(s, l)
		}
	}
	for _, addr := range []uint32{0, all, 0x0a010203, 0x55555555} {
		y := made(chain(addr)...)
		for n := range 33 {
			if l := y.Covering(prefix.Norm(addr, n)); !slices.Equal(l, chain(addr)[:n+1]) {
				t.Error(addr, n, l)
			}
			if l := y.Covering(prefix.Norm(addr^1, 32)); len(l) != 32 {
				t.Error(addr, l)
			}
		}
	}
}

func TestKeys(t *testing.T) {
	x := made(parsed("10.1.0.0/16", "10.0.0.0/8", "10.2.0.0/16", "11.0.0.0/8", "10.1.2.3/32")...)
	for s, want := range map[string][]api.Prefix{
		"0.0.0.0/0":   parsed("10.0.0.0/8", "10.1.0.0/16", "10.1.2.3/32", "10.2.0.0/16", "11.0.0.0/8"),
		"10.0.0.0/7":  parsed("10.0.0.0/8", "10.1.0.0/16", "10.1.2.3/32", "10.2.0.0/16", "11.0.0.0/8"),
		"10.0.0.0/8":  parsed("10.0.0.0/8", "10.1.0.0/16", "10.1.2.3/32", "10.2.0.0/16"),
		"10.0.0.0/9":  parsed("10.1.0.0/16", "10.1.2.3/32", "10.2.0.0/16"),
		"10.0.0.0/15": parsed("10.1.0.0/16", "10.1.2.3/32"),
		"10.1.0.0/16": parsed("10.1.0.0/16", "10.1.2.3/32"),
		"10.1.0.0/17": parsed("10.1.2.3/32"),
		"10.1.2.3/32": parsed("10.1.2.3/32"),
		"10.1.2.4/32": nil, "10.0.0.0/16": nil, "10.128.0.0/9": nil, "8.0.0.0/7": nil, "128.0.0.0/1": nil, "12.0.0.0/8": nil,
	} {
		if l := x.Keys(parse(s)); !slices.Equal(l, want) {
			t.Error(s, l)
		}
	}
}

func TestNext(t *testing.T) {
	x := made(parsed("10.1.0.0/16", "10.0.0.0/8", "10.2.0.0/16", "11.0.0.0/8", "10.1.2.3/32")...)
	for _, c := range []struct {
		in, after, want string
		v               int
	}{
		{"0.0.0.0/0", "0.0.0.0/0", "10.0.0.0/8", 2},
		{"0.0.0.0/0", "10.0.0.0/7", "10.0.0.0/8", 2},
		{"0.0.0.0/0", "10.0.0.0/8", "10.1.0.0/16", 1},
		{"0.0.0.0/0", "10.0.0.0/9", "10.1.0.0/16", 1},
		{"0.0.0.0/0", "10.1.0.0/16", "10.1.2.3/32", 5},
		{"0.0.0.0/0", "10.1.0.0/32", "10.1.2.3/32", 5},
		{"0.0.0.0/0", "10.1.2.2/32", "10.1.2.3/32", 5},
		{"0.0.0.0/0", "10.1.2.3/32", "10.2.0.0/16", 3},
		{"0.0.0.0/0", "10.1.2.4/32", "10.2.0.0/16", 3},
		{"0.0.0.0/0", "10.2.0.0/16", "11.0.0.0/8", 4},
		{"0.0.0.0/0", "11.0.0.0/8", "", 0},
		{"0.0.0.0/0", "255.255.255.255/32", "", 0},
		// What comes ahead of all that is within, and what comes behind all of it.
		{"10.1.0.0/16", "0.0.0.0/0", "10.1.0.0/16", 1},
		{"10.1.0.0/16", "10.0.0.0/8", "10.1.0.0/16", 1},
		{"10.1.0.0/16", "10.1.0.0/16", "10.1.2.3/32", 5},
		{"10.1.0.0/16", "10.1.2.3/32", "", 0},
		{"10.1.0.0/16", "10.2.0.0/16", "", 0},
		{"10.1.0.0/16", "255.0.0.0/8", "", 0},
		{"10.1.0.0/17", "0.0.0.0/0", "10.1.2.3/32", 5},
		{"10.3.0.0/16", "0.0.0.0/0", "", 0},
	} {
		var want api.Prefix
		if c.want != "" {
			want = parse(c.want)
		}
		if p, v, ok := x.Next(parse(c.in), parse(c.after), false); p != want || v != c.v || ok != (c.want != "") {
			t.Error(c, p, v, ok)
		}
	}
}

func TestNextFirst(t *testing.T) {
	x := made(parsed("10.1.0.0/16", "10.0.0.0/8", "10.2.0.0/16", "11.0.0.0/8", "10.1.2.3/32")...)
	// What comes behind is of no matter then, right or not.
	for _, after := range append(some(), wrong()...) {
		for in, want := range map[string]string{"0.0.0.0/0": "10.0.0.0/8", "10.1.0.0/16": "10.1.0.0/16", "10.0.0.0/9": "10.1.0.0/16", "10.1.0.0/17": "10.1.2.3/32", "11.0.0.0/8": "11.0.0.0/8"} {
			p, v, ok := x.Next(parse(in), after, true)
			if g, _ := x.Get(parse(want)); p != parse(want) || v != g || !ok {
				t.Error(in, after, p, v, ok)
			}
		}
		for _, in := range parsed("10.3.0.0/16", "128.0.0.0/1", "10.1.2.4/32", "11.0.0.0/9") {
			if p, v, ok := x.Next(in, after, true); p != whole || v != 0 || ok {
				t.Error(in, after, p, v, ok)
			}
		}
	}
}

func TestNextOfBothEnds(t *testing.T) {
	x := made(whole, of(all, 32))
	for _, c := range []struct {
		after api.Prefix
		want  int
	}{
		{of(0, -1), 1}, {of(0, math.MinInt), 1}, {of(0, 0), 2}, {of(all, 31), 2}, {of(all, -1), 2}, {of(all, math.MinInt), 2}, {of(0, math.MaxInt), 2},
		{of(all, 32), 0}, {of(all, 33), 0}, {of(all, math.MaxInt), 0},
	} {
		if _, v, ok := x.Next(whole, c.after, false); v != c.want || ok != (c.want > 0) {
			t.Error(c, v, ok)
		}
		if p, v, ok := x.Next(whole, c.after, true); p != whole || v != 1 || !ok {
			t.Error(c, p, v, ok)
		}
	}
}

func TestOfThatIsNotRight(t *testing.T) {
	x := made(append(some(), chain(ten)...)...)
	for _, p := range wrong() {
		if l := x.Covering(p); len(l) != 0 {
			t.Error(p, l)
		}
		if l := x.Keys(p); len(l) != 0 {
			t.Error(p, l)
		}
		for _, first := range []bool{true, false} {
			if q, v, ok := x.Next(p, whole, first); q != whole || v != 0 || ok {
				t.Error(p, q, v, ok)
			}
		}
	}
}

// Each call is held against its words, of all there are.
func TestAsTheWordsSay(t *testing.T) {
	l := some()
	x := made(l...)
	every := append(append(some(), wrong()...), chain(0x0a010203)...)
	for _, p := range every {
		var within, covering []api.Prefix
		for _, q := range l {
			if prefix.Covers(p, q) {
				within = append(within, q)
			}
			if prefix.Covers(q, p) {
				covering = append(covering, q)
			}
		}
		if !slices.Equal(x.Keys(p), within) || !slices.Equal(x.Covering(p), covering) {
			t.Error(p, x.Keys(p), x.Covering(p))
		}
		for _, after := range every {
			i := slices.IndexFunc(within, func(q api.Prefix) bool { return prefix.Compare(q, after) > 0 })
			q, v, ok := x.Next(p, after, false)
			if i < 0 && (ok || q != whole || v != 0) || i >= 0 && (!ok || q != within[i] || v != slices.Index(l, q)+1) {
				t.Error(p, after, q, v, ok)
			}
			q, v, ok = x.Next(p, after, true)
			if len(within) == 0 && (ok || q != whole || v != 0) || len(within) > 0 && (!ok || q != within[0] || v != slices.Index(l, q)+1) {
				t.Error(p, after, q, v, ok, "first")
			}
		}
	}
}

// P9.3

func TestNodes(t *testing.T) {
	for _, c := range []struct {
		l    []api.Prefix
		want int
	}{
		{nil, 0},
		{parsed("10.0.0.0/8"), 1},
		{parsed("10.0.0.0/8", "10.0.0.0/8"), 1},
		{parsed("10.0.0.0/8", "10.1.0.0/16"), 2},
		{parsed("10.0.0.0/8", "11.0.0.0/8"), 3},
		{parsed("0.0.0.0/32", "0.0.0.1/32", "128.0.0.0/32", "128.0.0.1/32"), 7},
		{chain(all), 33},
	} {
		if x := made(c.l...); x.Nodes() != c.want || x.Apart(nil) != c.want {
			t.Error(c, x.Nodes(), x.Apart(nil))
		}
	}
}

func TestApart(t *testing.T) {
	x := made(parsed("10.0.0.0/8", "10.1.0.0/16", "10.2.0.0/16", "192.0.0.0/8")...)
	if x.Apart(x) != 0 || x.Apart(nil) != x.Nodes() || x.Apart(ptrie.New[int]()) != x.Nodes() {
		t.Error("itself, and none")
	}
	// Another tree of the same is another one.
	same := made(parsed("10.0.0.0/8", "10.1.0.0/16", "10.2.0.0/16", "192.0.0.0/8")...)
	if x.Apart(same) != x.Nodes() || same.Apart(x) != x.Nodes() {
		t.Error(x.Apart(same), same.Apart(x))
	}
	// Its nodes: those of the four prefixes, and of 0.0.0.0/0 and 10.0.0.0/14, where others part.
	for put, want := range map[string]struct{ anew, gone int }{
		"192.0.0.0/8": {2, 2}, "192.0.0.0/16": {3, 2}, "0.0.0.0/0": {1, 1}, "10.1.0.0/16": {4, 4}, "10.0.0.0/15": {4, 3}, "8.0.0.0/8": {3, 1},
	} {
		y, _ := x.Put(parse(put), 9)
		if y.Apart(x) != want.anew || x.Apart(y) != want.gone {
			t.Error(put, y.Apart(x), x.Apart(y))
		}
	}
	for del, want := range map[string]struct{ anew, gone int }{
		"192.0.0.0/8": {0, 2}, "10.0.0.0/8": {1, 2}, "10.1.0.0/16": {2, 4}, "10.3.0.0/16": {0, 0},
	} {
		y, _ := x.Del(parse(del))
		if y.Apart(x) != want.anew || x.Apart(y) != want.gone {
			t.Error(del, y.Apart(x), x.Apart(y))
		}
	}
}

// P9.4 and P9.5

// dice are numbers that look thrown, and are the same each time.
type dice uint32

func (d *dice) below(n int) int {
	x := uint32(*d)
	x ^= x << 13
	x ^= x >> 17
	x ^= x << 5
	*d = dice(x)
	return int(x % uint32(n))
}

// prefix is one of few, so that many meet, at each length.
func (d *dice) prefix() api.Prefix {
	addr := []uint32{0, all, ten, 0x55555555}[d.below(4)] ^ uint32(d.below(4))<<d.below(31)
	return prefix.Norm(addr, d.below(33))
}

// moment is a trie, and what was told of it when it was made.
type moment struct {
	trie *ptrie.Trie[int]
	has  map[api.Prefix]int
}

// step makes another trie of one, and tells what it has to have.
func (m moment) step(t *testing.T, d *dice, n int) moment {
	p, has := d.prefix(), map[api.Prefix]int{}
	for q, v := range m.has {
		has[q] = v
	}
	if d.below(5) < 3 {
		has[p] = n
		x, e := m.trie.Put(p, n)
		if e != api.OK {
			t.Fatal(p, e)
		}
		return moment{x, has}
	}
	_, there := has[p]
	delete(has, p)
	x, was := m.trie.Del(p)
	if was != there {
		t.Fatal(p, was)
	}
	return moment{x, has}
}

// check holds all that a trie tells against what it has to have.
func (m moment) check(t *testing.T) {
	t.Helper()
	var keys []api.Prefix
	for p, v := range m.has {
		keys = append(keys, p)
		if got, ok := m.trie.Get(p); got != v || !ok {
			t.Fatal(p, got, ok)
		}
	}
	slices.SortFunc(keys, prefix.Compare)
	if !slices.Equal(m.trie.Keys(whole), keys) || m.trie.Len() != len(keys) {
		t.Fatal(m.trie.Keys(whole), keys)
	}
	if n := m.trie.Nodes(); n < len(keys) || n > 0 && n >= 2*len(keys) {
		t.Fatal(n, "nodes of", len(keys))
	}
	i := 0
	for p, v, ok := m.trie.Next(whole, whole, true); ok; p, v, ok = m.trie.Next(whole, p, false) {
		if i == len(keys) || p != keys[i] || v != m.has[p] {
			t.Fatal(i, p, v)
		}
		i++
	}
	if i != len(keys) {
		t.Fatal("Next ends at", i, "of", len(keys))
	}
}

func TestNothingThatWasMadeChanges(t *testing.T) {
	d := dice(2463534242)
	moments := []moment{{ptrie.New[int](), map[api.Prefix]int{}}}
	for n := range 1500 {
		// Not only the last one goes on.
		from := moments[len(moments)-1]
		if d.below(8) == 0 {
			from = moments[d.below(len(moments))]
		}
		m := from.step(t, &d, n+1)
		if a, b := m.trie.Apart(from.trie), m.trie.Nodes(); a > 34 || a > b {
			t.Fatal(a, "of", b, "nodes are new")
		}
		m.check(t)
		moments = append(moments, m)
	}
	for _, m := range moments {
		m.check(t)
	}
}

func TestAllMayGo(t *testing.T) {
	d := dice(88172645)
	m := moment{ptrie.New[int](), map[api.Prefix]int{}}
	for n := range 300 {
		m = m.step(t, &d, n+1)
	}
	for p := range m.has {
		x, was := m.trie.Del(p)
		if !was || x.Apart(m.trie) > 34 {
			t.Fatal(p, was, x.Apart(m.trie))
		}
		m.trie = x
		delete(m.has, p)
		m.check(t)
	}
	if m.trie.Len() != 0 || m.trie.Nodes() != 0 {
		t.Error(m.trie.Len(), m.trie.Nodes())
	}
}

// The longest way there is has a node of each length.
func TestTheMostThatIsCopied(t *testing.T) {
	for _, addr := range []uint32{0, all, 0x0a010203} {
		full := made(chain(addr)...)
		// Beside each of the way another one, so that all of its nodes have two sides.
		for n := 1; n <= 32; n++ {
			full, _ = full.Put(prefix.Norm(addr^1<<(32-n), n), 100+n)
		}
		if full.Len() != 65 || full.Nodes() != 65 {
			t.Fatal(full.Len(), full.Nodes())
		}
		for _, p := range full.Keys(whole) {
			x, _ := full.Put(p, 7)
			y, _ := full.Del(p)
			if x.Apart(full) > 34 || y.Apart(full) > 34 || x.Apart(full) != p.Len+1 || full.Apart(x) != p.Len+1 {
				t.Error(p, x.Apart(full), y.Apart(full))
			}
		}
	}
}

// Rules 3 and 4: values stay as they are, and so does what lies behind a list's end.

func TestValuesAreHandedBack(t *testing.T) {
	room := []int{1, 2, 3, 4}
	x := ptrie.New[[]int]()
	for i, p := range some() {
		x, _ = x.Put(p, room[:i%4])
	}
	x, _ = x.Del(some()[5])
	for i, p := range some() {
		if v, ok := x.Get(p); ok != (i != 5) || ok && !slices.Equal(v, room[:i%4]) {
			t.Error(p, v, ok)
		}
		x.Next(p, p, true)
		x.Keys(p)
	}
	if !slices.Equal(room, []int{1, 2, 3, 4}) {
		t.Error(room)
	}
}

// Whoever puts something behind what was told does not reach what is told next.
func TestListsAreApart(t *testing.T) {
	x := made(some()...)
	keys, covering := x.Keys(whole), x.Covering(of(all, 32))
	for i := range keys {
		keys[i] = of(5, 32)
	}
	for i := range covering {
		covering[i] = of(5, 32)
	}
	_, _ = append(keys, whole), append(covering, whole)
	if !slices.Equal(x.Keys(whole), some()) || !slices.Equal(x.Covering(of(all, 32)), []api.Prefix{of(0, 0), of(1<<31, 1), of(192<<24, 2), of(all-1, 31), of(all, 32)}) {
		t.Error(x.Keys(whole), x.Covering(of(all, 32)))
	}
}
