package cursor_test

import (
	"math"
	"slices"
	"testing"

	"speculum/api"
	"speculum/cursor"
)

// P26.1

func TestNew(t *testing.T) {
	for _, most := range []int{math.MinInt, -1, 0, 1, 8, 9, math.MaxInt} {
		for _, life := range []int{math.MinInt, 0, 1, 5, math.MaxInt} {
			x := cursor.New(most, life)
			has(t, x)
			are(t, "tick", x.Tick())
			are(t, "leave", x.Leave(0))
		}
	}
}

// How many there are is brought between 0 and 8; the one with the least Id goes, if there are more.
func TestRoom(t *testing.T) {
	for most, want := range map[int]int{math.MinInt: 0, -1: 0, 0: 0, 1: 1, 2: 2, 3: 3, 7: 7, 8: 8, 9: 8, 100: 8, math.MaxInt: 8} {
		x := cursor.New(most, 100)
		for n := 1; n <= 20; n++ {
			c := made(n%3, n)
			if n <= want {
				opens(t, x, c, n)
			} else {
				// With no room at all it goes itself.
				opens(t, x, c, n, as(made((n-want)%3, n-want), n-want, 0))
			}
			if x.Len() != min(n, want) {
				t.Error(most, n, x.Len())
			}
		}
		for id := 1; id <= 20; id++ {
			if c, ok := x.Get(id%3, id); ok != (id > 20-want) || ok && !same(c, as(made(id%3, id), id, 0)) {
				t.Error(most, id, c, ok)
			}
		}
	}
}

func TestRoomForOne(t *testing.T) {
	x := cursor.New(1, 10)
	opens(t, x, made(1, 1), 1)
	has(t, x, as(made(1, 1), 1, 0))
	opens(t, x, made(2, 2), 2, as(made(1, 1), 1, 0))
	has(t, x, as(made(2, 2), 2, 0))
}

func TestNoRoom(t *testing.T) {
	x := cursor.New(0, 10)
	for n := 1; n < 4; n++ {
		opens(t, x, made(1, n), n, as(made(1, n), n, 0))
		has(t, x)
		are(t, "tick", x.Tick())
		are(t, "leave", x.Leave(1))
	}
}

// Of what is handed in to be opened, Id and Age say nothing.
func TestOpenGivesTheId(t *testing.T) {
	x := cursor.New(3, 2)
	for n, id := range []int{77, -1, 0, 1, math.MaxInt, math.MinInt, 3} {
		c := as(made(1, n), id, 5)
		if n < 3 {
			opens(t, x, c, n+1)
		} else {
			opens(t, x, c, n+1, as(made(1, n-3), n-2, 0))
		}
		if got, ok := x.Get(1, n+1); !ok || !same(got, as(made(1, n), n+1, 0)) {
			t.Error(got, ok)
		}
	}
	has(t, x, as(made(1, 4), 5, 0), as(made(1, 5), 6, 0), as(made(1, 6), 7, 0))
	// An Age that is handed in lets nothing go sooner.
	are(t, "tick", x.Tick())
	if got, ok := x.Get(1, 7); !ok || got.Age != 1 {
		t.Error(got, ok)
	}
}

func TestOwners(t *testing.T) {
	x := cursor.New(8, 10)
	for n, owner := range []int{3, 0, -7, 3, math.MaxInt} {
		opens(t, x, made(owner, n), n+1)
	}
	l := []cursor.Cursor{as(made(3, 0), 1, 0), as(made(0, 1), 2, 0), as(made(-7, 2), 3, 0), as(made(3, 3), 4, 0), as(made(math.MaxInt, 4), 5, 0)}
	// Another one's is none, for each call: has asks so of all.
	has(t, x, l...)
	for _, c := range l {
		for _, owner := range []int{3, 0, -7, math.MaxInt, 1, -1} {
			if owner != c.Owner {
				none(t, x, owner, c.Id)
			}
		}
	}
	has(t, x, l...)
}

func TestMove(t *testing.T) {
	x := cursor.New(4, 10)
	first, second := made(1, 1), made(1, 2)
	opens(t, x, first, 1)
	opens(t, x, second, 2)
	are(t, "tick", x.Tick())
	are(t, "tick", x.Tick())
	has(t, x, as(first, 1, 2), as(second, 2, 2))
	// Just what is said changes, of just that one.
	for _, after := range []api.Prefix{{Addr: 99 << 24, Len: 9}, {}, {Addr: 5, Len: 77}, {Len: -1}} {
		if !x.Move(1, 2, after) {
			t.Error("not moved")
		}
		second.After = after
		has(t, x, as(first, 1, 2), as(second, 2, 0))
	}
	if x.Move(2, 2, first.After) || x.Move(1, 3, first.After) || x.Move(1, 0, first.After) {
		t.Error("moved")
	}
	has(t, x, as(first, 1, 2), as(second, 2, 0))
}

func TestClose(t *testing.T) {
	x := cursor.New(4, 10)
	for n := 1; n <= 4; n++ {
		opens(t, x, made(n%2, n), n)
	}
	x.Tick()
	x.Move(0, 2, api.Prefix{Addr: 7 << 24, Len: 8})
	moved := made(0, 2)
	moved.After = api.Prefix{Addr: 7 << 24, Len: 8}
	closes := func(owner, id int, want cursor.Cursor) {
		t.Helper()
		if c, ok := x.Close(owner, id); !ok || !same(c, want) {
			t.Errorf("%+v, %v", c, ok)
		}
		none(t, x, owner, id)
	}
	closes(0, 2, as(moved, 2, 0))
	has(t, x, as(made(1, 1), 1, 1), as(made(1, 3), 3, 1), as(made(0, 4), 4, 1))
	closes(0, 4, as(made(0, 4), 4, 1))
	closes(1, 1, as(made(1, 1), 1, 1))
	has(t, x, as(made(1, 3), 3, 1))
	// There is room again; no Id comes again.
	for n := 5; n <= 7; n++ {
		opens(t, x, made(0, n), n)
	}
	opens(t, x, made(0, 8), 8, as(made(1, 3), 3, 1))
	has(t, x, as(made(0, 5), 5, 0), as(made(0, 6), 6, 0), as(made(0, 7), 7, 0), as(made(0, 8), 8, 0))
}

// The one with the least Id goes, however long it was not asked for, whosever it is, and wherever it was moved.
func TestTheLeastIdGoes(t *testing.T) {
	x := cursor.New(2, 10)
	opens(t, x, made(1, 1), 1)
	x.Tick()
	opens(t, x, made(1, 2), 2)
	x.Tick()
	x.Move(1, 1, made(1, 1).After)
	opens(t, x, made(2, 3), 3, as(made(1, 1), 1, 0))
	has(t, x, as(made(1, 2), 2, 1), as(made(2, 3), 3, 0))
	x.Close(1, 2)
	opens(t, x, made(1, 4), 4)
	opens(t, x, made(1, 5), 5, as(made(2, 3), 3, 0))
}

// P26.2

func TestLeave(t *testing.T) {
	x := cursor.New(8, 10)
	for n, owner := range []int{1, 2, 1, 1, 3, 2} {
		opens(t, x, made(owner, n), n+1)
	}
	x.Tick()
	x.Move(1, 3, made(1, 2).After)
	for _, owner := range append(odd, 4) {
		are(t, owner, x.Leave(owner))
	}
	are(t, "several", x.Leave(1), as(made(1, 0), 1, 1), as(made(1, 2), 3, 0), as(made(1, 3), 4, 1))
	has(t, x, as(made(2, 1), 2, 1), as(made(3, 4), 5, 1), as(made(2, 5), 6, 1))
	are(t, "none any more", x.Leave(1))
	are(t, "one", x.Leave(3), as(made(3, 4), 5, 1))
	// Who left may come again.
	opens(t, x, made(1, 9), 7)
	are(t, "again", x.Leave(1), as(made(1, 9), 7, 0))
	are(t, "all", x.Leave(2), as(made(2, 1), 2, 1), as(made(2, 5), 6, 1))
	has(t, x)
	opens(t, x, made(2, 0), 8)
}

// A life is brought to 1, if it is less.
func TestLife(t *testing.T) {
	for life, want := range map[int]int{math.MinInt: 1, -1: 1, 0: 1, 1: 1, 2: 2, 3: 3, 7: 7} {
		x := cursor.New(8, life)
		opens(t, x, made(1, 1), 1)
		for age := 1; age < want; age++ {
			are(t, "too soon", x.Tick())
			has(t, x, as(made(1, 1), 1, age))
		}
		are(t, life, x.Tick(), as(made(1, 1), 1, want))
		has(t, x)
		are(t, life, x.Tick())
		opens(t, x, made(1, 2), 2)
	}
	x := cursor.New(8, math.MaxInt)
	opens(t, x, made(1, 1), 1)
	for range 10000 {
		are(t, "a long life", x.Tick())
	}
	has(t, x, as(made(1, 1), 1, 10000))
}

func TestTick(t *testing.T) {
	x := cursor.New(8, 3)
	are(t, "none is there", x.Tick())
	opens(t, x, made(1, 1), 1)
	opens(t, x, made(2, 2), 2)
	are(t, "none goes", x.Tick())
	opens(t, x, made(1, 3), 3)
	are(t, "none goes", x.Tick())
	opens(t, x, made(3, 4), 4)
	has(t, x, as(made(1, 1), 1, 2), as(made(2, 2), 2, 2), as(made(1, 3), 3, 1), as(made(3, 4), 4, 0))
	are(t, "several go", x.Tick(), as(made(1, 1), 1, 3), as(made(2, 2), 2, 3))
	are(t, "one goes", x.Tick(), as(made(1, 3), 3, 3))
	has(t, x, as(made(3, 4), 4, 2))
	are(t, "one goes", x.Tick(), as(made(3, 4), 4, 3))
	has(t, x)
}

// Move between ticks lets one live on; Get does not.
func TestMoveBetweenTicks(t *testing.T) {
	x := cursor.New(8, 2)
	c := made(1, 1)
	opens(t, x, c, 1)
	opens(t, x, made(1, 2), 2)
	for n := range 5 {
		x.Get(1, 2)
		if !x.Move(1, 1, c.After) {
			t.Error("went")
		}
		went := x.Tick()
		if n == 1 {
			are(t, "the one that was not moved", went, as(made(1, 2), 2, 2))
		} else {
			are(t, n, went)
		}
	}
	has(t, x, as(c, 1, 1))
	are(t, "at last", x.Tick(), as(c, 1, 2))
	has(t, x)
}

// Rule 6: nil, and one that no call made.
func TestOfNone(t *testing.T) {
	var x *cursor.Table
	for range 2 {
		if id, l := x.Open(made(1, 1)); id != 0 || len(l) != 0 {
			t.Error(id, l)
		}
		has(t, x)
		are(t, "leave", x.Leave(1))
		are(t, "tick", x.Tick())
	}
	x = &cursor.Table{}
	for n := 1; n < 4; n++ {
		// It has room for none.
		opens(t, x, made(1, n), n, as(made(1, n), n, 0))
		has(t, x)
		are(t, "leave", x.Leave(1))
		are(t, "tick", x.Tick())
	}
}

// Rule 5: tables know nothing of one another, and what was told stays as it is.
func TestAlone(t *testing.T) {
	x, y := cursor.New(2, 2), cursor.New(2, 5)
	opens(t, x, made(1, 1), 1)
	opens(t, x, made(1, 2), 2)
	opens(t, y, made(1, 3), 1)
	_, went := x.Open(made(1, 4))
	x.Tick()
	left := x.Leave(1)
	are(t, "went", went, as(made(1, 1), 1, 0))
	are(t, "left", left, as(made(1, 2), 2, 1), as(made(1, 4), 3, 1))
	grown := append(left[:1], made(9, 9))
	opens(t, x, made(1, 5), 4)
	opens(t, x, made(1, 6), 5)
	gone := x.Tick()
	gone = append(gone, x.Tick()...)
	are(t, "gone", gone, as(made(1, 5), 4, 2), as(made(1, 6), 5, 2))
	are(t, "grown", grown, as(made(1, 2), 2, 1), made(9, 9))
	has(t, y, as(made(1, 3), 1, 0))
}

// Rule 4: lists that were handed in are not changed, nor what lies behind their end.
func TestListsStay(t *testing.T) {
	room := []uint32{1, 2, 3, 4}
	c := made(1, 1)
	c.Query.Comms = room[:2]
	x := cursor.New(1, 3)
	x.Open(c)
	x.Tick()
	x.Move(1, 1, api.Prefix{})
	x.Open(c)
	x.Close(1, 2)
	if !slices.Equal(room, []uint32{1, 2, 3, 4}) || c.Id != 0 || c.Age != 0 {
		t.Error(room, c)
	}
}
