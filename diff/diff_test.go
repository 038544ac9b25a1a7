package diff_test

import (
	"maps"
	"math"
	"slices"
	"testing"

	"speculum/api"
	"speculum/aspath"
	"speculum/attrs"
	"speculum/diff"
	"speculum/prefix"
	"speculum/rib"
)

var us = api.Local{AS: 65001, Id: 1, Addr: 10<<24 | 1, Hold: 90}

var whole = api.Prefix{}

func parse(s string) api.Prefix {
	p, ok := prefix.Parse(s)
	if !ok {
		panic(s)
	}
	return p
}

func parsed(l ...string) []api.Prefix {
	var out []api.Prefix
	for _, s := range l {
		out = append(out, parse(s))
	}
	return out
}

// wrong is prefixes that are not right.
func wrong() []api.Prefix {
	return []api.Prefix{{Addr: 1, Len: 0}, {Addr: 10<<24 | 1, Len: 8}, {Len: -1}, {Len: 33}, {Len: math.MinInt}, {Len: math.MaxInt}, {Addr: math.MaxUint32, Len: 31}}
}

// said is attributes with a path of one number.
func said(as uint32) api.Attrs {
	a := attrs.Zero()
	a.Path, a.Next = []api.Segment{{Kind: api.Seq, AS: []uint32{as}}}, 40<<24
	return a
}

// goes is these, as they go out to one of another system.
func goes(as uint32) api.Attrs {
	a := said(as)
	a.Path, _ = aspath.Prepend(a.Path, us.AS)
	a.Next = us.Addr
	return a
}

// listener is the peer to whom all goes that the first one tells.
const listener = 1

// ribs is a rib of a peer who tells, of one who listens, and of one who is not up.
func ribs(t *testing.T) *rib.Rib {
	t.Helper()
	r := rib.New(us, []api.Peer{{AS: 65002, Limit: 9999}, {AS: 65003}, {AS: 65004}})
	for k := range 2 {
		r = up(t, r, k)
	}
	return r
}

func up(t *testing.T, r *rib.Rib, k int) *rib.Rib {
	t.Helper()
	r, _, e := r.Up(k, uint32(k))
	if e != api.OK {
		t.Fatal(e)
	}
	return r
}

// tell is a rib behind what the first peer tells of prefixes.
func tell(t *testing.T, r *rib.Rib, as uint32, l ...string) *rib.Rib {
	t.Helper()
	return update(t, r, api.Update{Attrs: said(as), News: parsed(l...)})
}

func gone(t *testing.T, r *rib.Rib, l ...string) *rib.Rib {
	t.Helper()
	return update(t, r, api.Update{Gone: parsed(l...)})
}

func update(t *testing.T, r *rib.Rib, u api.Update) *rib.Rib {
	t.Helper()
	r, _, refused, e := r.Update(0, u)
	if refused || e != api.OK {
		t.Fatal(refused, e)
	}
	return r
}

// entries is what was told of prefixes, each with the number of its path, in order.
func entries(as map[string]uint32) []api.Entry {
	var out []api.Entry
	for s, n := range as {
		out = append(out, api.Entry{Prefix: parse(s), Attrs: goes(n)})
	}
	slices.SortFunc(out, func(a, b api.Entry) int { return prefix.Compare(a.Prefix, b.Prefix) })
	return out
}

func sameEntry(a, b api.Entry) bool {
	return a.Prefix == b.Prefix && a.From == b.From && attrs.Same(a.Attrs, b.Attrs)
}

// is holds a todo against how many are marked, and what was told.
func is(t *testing.T, x *diff.Todo, left int, sent map[string]uint32) {
	t.Helper()
	if x.Left() != left {
		t.Errorf("%d are marked, not %d", x.Left(), left)
	}
	if got, want := x.Sent(), entries(sent); !slices.EqualFunc(got, want, sameEntry) {
		t.Errorf("told: %+v, not %+v", got, want)
	}
}

// batch holds an update against what it has to say, and how many are looked at; it tells the todo behind it.
func batch(t *testing.T, x *diff.Todo, r *rib.Rib, most int, want api.Update, looked int) *diff.Todo {
	t.Helper()
	u, y, n := x.Batch(r, listener, most)
	same(t, u, want)
	if n != looked {
		t.Errorf("%d were looked at, not %d", n, looked)
	}
	if y == nil {
		t.Fatal("no todo")
	}
	return y
}

func same(t *testing.T, u, want api.Update) {
	t.Helper()
	if !slices.Equal(u.Gone, want.Gone) || !slices.Equal(u.News, want.News) || !attrs.Same(u.Attrs, want.Attrs) {
		t.Errorf("%+v, not %+v", u, want)
	}
}

func news(as uint32, l ...string) api.Update { return api.Update{Attrs: goes(as), News: parsed(l...)} }
func goneOf(l ...string) api.Update          { return api.Update{Gone: parsed(l...)} }

const (
	nine   = "9.0.0.0/8"
	ten    = "10.0.0.0/8"
	eleven = "11.0.0.0/8"
	twelve = "12.0.0.0/8"
)

// P19.1

// empties is todos without anything, however they came to be.
func empties() map[string]*diff.Todo {
	none := (*diff.Todo)(nil)
	_, behind, _ := none.Batch(nil, 0, 5)
	_, behindNone, _ := none.Batch(nil, 0, 0)
	return map[string]*diff.Todo{
		"nil": none, "New": diff.New(), "a zero one": {}, "none marked": diff.New().Mark(nil), "none marked of nil": none.Mark([]api.Prefix{}),
		"not right ones marked": diff.New().Mark(wrong()), "behind a batch": behind, "behind a batch of none": behindNone,
	}
}

func TestEmpty(t *testing.T) {
	r := tell(t, ribs(t), 7, ten)
	for name, x := range empties() {
		is(t, x, 0, nil)
		for _, most := range []int{0, 1, 32, -1, math.MinInt, math.MaxInt} {
			for _, on := range []*rib.Rib{nil, {}, r} {
				u, y, n := x.Batch(on, listener, most)
				same(t, u, api.Update{})
				is(t, y, 0, nil)
				if n != 0 || y == nil {
					t.Error(name, n, y)
				}
			}
		}
		// It may be begun with.
		y := x.Mark(parsed(ten))
		is(t, y, 1, nil)
		is(t, batch(t, y, r, 1, news(7, ten), 1), 0, map[string]uint32{ten: 7})
		is(t, x, 0, nil)
		if t.Failed() {
			t.Fatal(name)
		}
	}
}

func TestMark(t *testing.T) {
	x := diff.New()
	for _, c := range []struct {
		name string
		l    []api.Prefix
		left int
	}{
		{"none", nil, 0},
		{"one", parsed(ten), 1},
		{"the same", parsed(ten), 1},
		{"twice in one list", parsed(eleven, eleven), 2},
		{"not right ones", wrong(), 2},
		{"right ones among them", append(append(wrong(), parsed(twelve, ten)...), wrong()...), 3},
		{"shorter and longer ones", parsed("10.0.0.0/7", "10.0.0.0/9", "0.0.0.0/0", "10.0.0.0/32"), 7},
		{"both ends", parsed("0.0.0.0/32", "255.255.255.255/32", "0.0.0.0/0"), 9},
		{"an empty list", []api.Prefix{}, 9},
	} {
		y := x.Mark(c.l)
		if y.Left() != c.left {
			t.Errorf("%s: %d", c.name, y.Left())
		}
		// Nothing was told by it.
		is(t, y, c.left, nil)
		x = y
	}
}

// P19.2

func TestOneBatch(t *testing.T) {
	r := tell(t, ribs(t), 7, ten, eleven)
	x := diff.New().Mark(parsed(eleven, ten, nine))
	// Of one that does not go out, and was not told, nothing is said.
	x = batch(t, x, r, 32, news(7, ten, eleven), 3)
	is(t, x, 0, map[string]uint32{ten: 7, eleven: 7})
	// Nothing is marked: nothing is said, though it differs.
	r = tell(t, r, 8, ten)
	is(t, batch(t, x, r, 32, api.Update{}, 0), 0, map[string]uint32{ten: 7, eleven: 7})
	// What was told is not told again.
	x = x.Mark(parsed(ten, eleven))
	x = batch(t, x, r, 32, news(8, ten), 2)
	is(t, x, 0, map[string]uint32{ten: 8, eleven: 7})
	// What goes, and what comes.
	r = tell(t, gone(t, r, ten), 9, twelve)
	x = batch(t, x.Mark(parsed(ten, eleven, twelve, nine)), r, 32, api.Update{Gone: parsed(ten), Attrs: goes(9), News: parsed(twelve)}, 4)
	is(t, x, 0, map[string]uint32{twelve: 9, eleven: 7})
	// What is gone is not gone again.
	x = batch(t, x.Mark(parsed(ten)), r, 32, api.Update{}, 1)
	r = gone(t, r, eleven, twelve)
	x = batch(t, x.Mark(parsed(twelve, eleven)), r, 32, goneOf(eleven, twelve), 2)
	is(t, x, 0, nil)
}

func TestAsManyAsMayBe(t *testing.T) {
	l := []string{"1.0.0.0/8", "2.0.0.0/8", "3.0.0.0/8", "4.0.0.0/8", "5.0.0.0/8"}
	r := tell(t, ribs(t), 7, l...)
	marked := diff.New().Mark(parsed(l[3], l[0], l[4], l[2], l[1]))
	for most, want := range map[int]int{math.MinInt: 0, -1: 0, 0: 0, 1: 1, 2: 2, 4: 4, 5: 5, 6: 5, 32: 5, math.MaxInt: 5} {
		u := api.Update{}
		if want > 0 {
			u = news(7, l[:want]...)
		}
		x := batch(t, marked, r, most, u, want)
		told := map[string]uint32{}
		for _, s := range l[:want] {
			told[s] = 7
		}
		is(t, x, 5-want, told)
		// Those that are left are the last ones.
		if want < 5 {
			batch(t, x, r, 9, news(7, l[want:]...), 5-want)
		}
		if t.Failed() {
			t.Fatal(most)
		}
	}
}

// Those of which nothing is to be said count as looked at, too.
func TestWhatIsLookedAtCounts(t *testing.T) {
	r := tell(t, ribs(t), 7, eleven, twelve)
	x := diff.New().Mark(parsed(nine, ten, eleven, twelve))
	x = batch(t, x, r, 2, api.Update{}, 2)
	is(t, x, 2, nil)
	x = batch(t, x, r, 1, news(7, eleven), 1).Mark(parsed(eleven))
	x = batch(t, x, r, 1, api.Update{}, 1)
	is(t, x, 1, map[string]uint32{eleven: 7})
	is(t, batch(t, x, r, 1, news(7, twelve), 1), 0, map[string]uint32{eleven: 7, twelve: 7})
}

func TestUnlikeAttributes(t *testing.T) {
	// Two marked, with unlike attributes: two batches.
	r := tell(t, tell(t, ribs(t), 7, ten), 8, eleven)
	x := diff.New().Mark(parsed(ten, eleven))
	x = batch(t, x, r, 32, news(7, ten), 2)
	is(t, x, 1, map[string]uint32{ten: 7})
	x = batch(t, x, r, 32, news(8, eleven), 1)
	is(t, x, 0, map[string]uint32{ten: 7, eleven: 8})

	// All like the first one are told, also behind one that stays; so is what goes.
	r = tell(t, gone(t, tell(t, r, 5, nine, twelve), eleven), 6, ten, "13.0.0.0/8")
	x = batch(t, x.Mark(parsed(nine, ten, eleven, twelve, "13.0.0.0/8", "14.0.0.0/8")), r, 32, api.Update{Gone: parsed(eleven), Attrs: goes(5), News: parsed(nine, twelve)}, 6)
	is(t, x, 2, map[string]uint32{nine: 5, twelve: 5, ten: 7})
	x = batch(t, x, r, 32, news(6, ten, "13.0.0.0/8"), 2)
	is(t, x, 0, map[string]uint32{nine: 5, twelve: 5, ten: 6, "13.0.0.0/8": 6})

	// Those that stay come first again, and count.
	r = tell(t, tell(t, r, 1, nine, eleven), 2, ten, twelve)
	x = batch(t, x.Mark(parsed(nine, ten, eleven, twelve)), r, 2, news(1, nine), 2)
	is(t, x, 3, map[string]uint32{nine: 1, twelve: 5, ten: 6, "13.0.0.0/8": 6})
	x = batch(t, x, r, 2, news(2, ten), 2)
	is(t, x, 2, map[string]uint32{nine: 1, twelve: 5, ten: 2, "13.0.0.0/8": 6})
	x = batch(t, x, r, 1, news(1, eleven), 1)
	is(t, batch(t, x, r, 1, news(2, twelve), 1), 0, map[string]uint32{nine: 1, eleven: 1, twelve: 2, ten: 2, "13.0.0.0/8": 6})
}

// One whose attributes are just those that were told is passed by, though the first of News has others.
func TestWhatWasToldAsItIs(t *testing.T) {
	r := tell(t, ribs(t), 7, eleven)
	x := batch(t, diff.New().Mark(parsed(eleven)), r, 1, news(7, eleven), 1)
	r = tell(t, r, 8, ten, twelve)
	x = batch(t, x.Mark(parsed(ten, eleven, twelve)), r, 9, news(8, ten, twelve), 3)
	is(t, x, 0, map[string]uint32{eleven: 7, ten: 8, twelve: 8})
	// What went, and comes again just as it was told, is not told.
	there := r
	r = gone(t, r, eleven)
	x = x.Mark(parsed(eleven))
	is(t, batch(t, x, there, 9, api.Update{}, 1), 0, map[string]uint32{eleven: 7, ten: 8, twelve: 8})
	// If its going was told, it is.
	x = batch(t, x, r, 9, goneOf(eleven), 1)
	is(t, batch(t, x.Mark(parsed(eleven)), there, 9, news(7, eleven), 1), 0, map[string]uint32{eleven: 7, ten: 8, twelve: 8})
}

// Attributes that are all zero go out as they are to one of this system: they are something else than what was not told.
func TestZeroAttributesAreTold(t *testing.T) {
	r := rib.New(us, []api.Peer{{AS: 65002, Limit: 9}, {AS: us.AS}})
	r = update(t, up(t, up(t, r, 0), listener), api.Update{News: parsed(ten, eleven)})
	x := batch(t, diff.New().Mark(parsed(ten, eleven)), r, 9, api.Update{News: parsed(ten, eleven)}, 2)
	if l := x.Sent(); len(l) != 2 || !sameEntry(l[0], api.Entry{Prefix: parse(ten)}) || !sameEntry(l[1], api.Entry{Prefix: parse(eleven)}) {
		t.Error(l)
	}
	// So they are beside others, which come first or stay.
	r = tell(t, r, 7, nine)
	u, y, n := diff.New().Mark(parsed(nine, ten, eleven)).Batch(r, listener, 9)
	if !slices.Equal(u.News, parsed(nine)) || attrs.Same(u.Attrs, api.Attrs{}) || y.Left() != 2 || n != 3 {
		t.Error(u, y.Left(), n)
	}
	r = tell(t, gone(t, r, nine), 7, twelve)
	u, y, n = diff.New().Mark(parsed(ten, twelve)).Batch(r, listener, 9)
	if !slices.Equal(u.News, parsed(ten)) || !attrs.Same(u.Attrs, api.Attrs{}) || y.Left() != 1 || n != 2 {
		t.Error(u, y.Left(), n)
	}
}

func TestPeersToWhomNothingGoes(t *testing.T) {
	r := tell(t, ribs(t), 7, ten, eleven)
	x := batch(t, diff.New().Mark(parsed(ten, eleven)), r, 9, news(7, ten, eleven), 2)
	marked := x.Mark(parsed(twelve, ten, eleven))
	// 0 told it itself, 2 is not up, the others are not there.
	for _, k := range []int{0, 2, 3, -1, math.MinInt, math.MaxInt} {
		u, y, n := marked.Batch(r, k, 9)
		same(t, u, goneOf(ten, eleven))
		is(t, y, 0, nil)
		if n != 3 {
			t.Error(k, n)
		}
	}
	for _, none := range []*rib.Rib{nil, {}, rib.New(us, nil)} {
		u, y, n := marked.Batch(none, listener, 2)
		same(t, u, goneOf(ten, eleven))
		is(t, y, 1, nil)
		if n != 2 {
			t.Error(n)
		}
	}
	// What goes out to each is asked of that one.
	u, _, _ := diff.New().Mark(parsed(ten)).Batch(up(t, r, 2), 2, 9)
	same(t, u, news(7, ten))
}

// P19.3, and that nothing changes a todo

// chance is numbers that come the same each time.
type chance uint32

func (x *chance) below(n int) int {
	*x ^= *x << 13
	*x ^= *x >> 17
	*x ^= *x << 5
	return int(uint32(*x) % uint32(n))
}

func (x *chance) prefixes(n int) []api.Prefix {
	var out []api.Prefix
	for range n {
		p := prefix.Norm(uint32(x.below(8))<<29, x.below(4))
		if x.below(8) == 0 {
			p = wrong()[x.below(len(wrong()))]
		}
		out = append(out, p)
	}
	return out
}

// moment is a todo, and what it has to be.
type moment struct {
	todo   *diff.Todo
	marked map[api.Prefix]int
	told   map[api.Prefix]api.Attrs
}

func (m moment) check(t *testing.T) {
	t.Helper()
	var want []api.Entry
	for p, a := range m.told {
		want = append(want, api.Entry{Prefix: p, Attrs: a})
	}
	slices.SortFunc(want, func(a, b api.Entry) int { return prefix.Compare(a.Prefix, b.Prefix) })
	if m.todo.Left() != len(m.marked) || !slices.EqualFunc(m.todo.Sent(), want, sameEntry) {
		t.Fatalf("%d, %+v, not %+v", m.todo.Left(), m.todo.Sent(), m)
	}
}

func (m moment) mark(l []api.Prefix) moment {
	marked := maps.Clone(m.marked)
	if marked == nil {
		marked = map[api.Prefix]int{}
	}
	for _, p := range l {
		if prefix.Right(p) {
			marked[p] = 1
		}
	}
	return moment{m.todo.Mark(l), marked, m.told}
}

// batch is the words of P19.2.
func (m moment) batch(t *testing.T, r *rib.Rib, most int) (moment, int) {
	t.Helper()
	var want api.Update
	marked, told := maps.Clone(m.marked), maps.Clone(m.told)
	if told == nil {
		told = map[api.Prefix]api.Attrs{}
	}
	l := slices.SortedFunc(maps.Keys(m.marked), prefix.Compare)
	l = l[:min(max(most, 0), len(l))]
	for _, p := range l {
		x, goes := r.Get(api.TOut, listener, p)
		was, had := m.told[p]
		stays := false
		if !goes && had {
			want.Gone = append(want.Gone, p)
			delete(told, p)
		}
		if goes && !(had && attrs.Same(was, x.Attrs)) {
			if len(want.News) == 0 {
				want.Attrs = x.Attrs
			}
			if attrs.Same(want.Attrs, x.Attrs) {
				want.News = append(want.News, p)
				told[p] = x.Attrs
			} else {
				stays = true
			}
		}
		if !stays {
			delete(marked, p)
		}
	}
	u, todo, n := m.todo.Batch(r, listener, most)
	same(t, u, want)
	if n != len(l) {
		t.Fatal(n, "were looked at, not", len(l))
	}
	if t.Failed() {
		t.FailNow()
	}
	return moment{todo, marked, told}, n
}

func TestAsTheWordsSay(t *testing.T) {
	x := chance(2463534242)
	r := ribs(t)
	moments := []moment{{todo: diff.New()}}
	for n := range 4000 {
		// Not only the last one goes on.
		m := moments[len(moments)-1-x.below(min(len(moments), 1+x.below(3)))]
		switch x.below(3) {
		case 0:
			r = update(t, r, api.Update{Gone: x.prefixes(x.below(4)), Attrs: said(uint32(7 + x.below(3))), News: x.prefixes(x.below(4))})
		case 1:
			m = m.mark(x.prefixes(x.below(8)))
		case 2:
			m, _ = m.batch(t, r, x.below(9)-1)
		}
		m.check(t)
		moments = append(moments, m)
		if n%1000 == 999 {
			for _, m := range moments {
				m.check(t)
			}
		}
	}
}

// Batches end, and then all is told, if all that differs was marked.
func TestAgainAndAgain(t *testing.T) {
	x := chance(88172645)
	most := map[bool]int{}
	for range 400 {
		r := ribs(t)
		todo := diff.New()
		for range 1 + x.below(6) {
			next, c, _, e := r.Update(0, api.Update{Gone: x.prefixes(x.below(5)), Attrs: said(uint32(7 + x.below(4))), News: x.prefixes(x.below(9))})
			if e != api.OK {
				t.Fatal(e)
			}
			r, todo = next, todo.Mark(c.Outs[listener])
			if x.below(3) == 0 {
				_, todo, _ = todo.Batch(r, listener, x.below(4))
			}
		}
		size, marked, turns := 1+x.below(5), todo.Left(), 0
		for todo.Left() > 0 {
			before := todo.Left()
			u, next, n := todo.Batch(r, listener, size)
			if next.Left() >= before || n < 1 || n > size || len(u.Gone)+len(u.News) > n {
				t.Fatal(before, next.Left(), n)
			}
			todo = next
			turns++
		}
		if turns > marked {
			t.Fatal(turns, "batches of", marked)
		}
		most[turns == marked]++
		var want []api.Entry
		for _, e := range r.All(api.TOut, listener) {
			want = append(want, api.Entry{Prefix: e.Prefix, Attrs: e.Attrs})
		}
		if !slices.EqualFunc(todo.Sent(), want, sameEntry) {
			t.Fatalf("told: %+v, not %+v", todo.Sent(), want)
		}
		u, _, n := todo.Batch(r, listener, size)
		if len(u.Gone) != 0 || len(u.News) != 0 || n != 0 {
			t.Fatal("something is left", u)
		}
	}
	if most[true] == 0 || most[false] == 0 {
		t.Error(most)
	}
}

// Rules 4 and 5

func TestNothingHandedInIsChanged(t *testing.T) {
	l := parsed(eleven, ten, eleven, nine)
	x := diff.New().Mark(l[:3])
	r := tell(t, ribs(t), 7, nine, ten, eleven)
	for range 5 {
		u, y, _ := x.Batch(r, listener, 9)
		same(t, u, news(7, ten, eleven))
		// Whoever puts something behind what was told does not reach what is told next.
		_ = append(u.News, whole)
		_ = append(y.Sent(), api.Entry{})
		is(t, y, 0, map[string]uint32{ten: 7, eleven: 7})
		is(t, x, 2, nil)
	}
	if !slices.Equal(l, parsed(eleven, ten, eleven, nine)) {
		t.Error(l)
	}
	if got := r.All(api.TOut, listener); len(got) != 3 {
		t.Error(got)
	}
}
