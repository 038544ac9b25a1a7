package cursor_test

import (
	"math"
	"slices"
	"testing"

	"speculum/api"
	"speculum/cursor"
	"speculum/query"
)

// odd is numbers of which no cursor is, and nobody an owner.
var odd = []int{-1, 0, -2, 1 << 32, 1<<32 + 1, math.MaxInt, math.MinInt}

// made is a cursor of an owner as it is opened; its other fields tell it from others.
func made(owner, n int) cursor.Cursor {
	return cursor.Cursor{
		Owner: owner, Version: 10 + n, Query: api.Query{Kind: api.QShow, Mode: api.Longer, Peer: n, Regex: "1", Comms: []uint32{uint32(n)}}, After: api.Prefix{Addr: uint32(n) << 24, Len: 8},
	}
}

// as is a cursor as it is there, with an Id and an Age.
func as(c cursor.Cursor, id, age int) cursor.Cursor {
	c.Id, c.Age = id, age
	return c
}

func same(a, b cursor.Cursor) bool {
	return a.Id == b.Id && a.Owner == b.Owner && a.Version == b.Version && query.Same(a.Query, b.Query) && a.After == b.After && a.Age == b.Age
}

// are holds cursors that went against some.
func are(t *testing.T, name any, got []cursor.Cursor, want ...cursor.Cursor) {
	t.Helper()
	if !slices.EqualFunc(got, want, same) {
		t.Errorf("%v: %+v, not %+v", name, got, want)
	}
}

// opens opens a cursor, and holds its Id and those that went against some.
func opens(t *testing.T, x *cursor.Table, c cursor.Cursor, want int, went ...cursor.Cursor) {
	t.Helper()
	id, l := x.Open(c)
	if id != want {
		t.Errorf("opened as %d, not %d", id, want)
	}
	are(t, "went when it was opened", l, went...)
}

// has holds all cursors of a table against some, in order, and asks for many that are none.
func has(t *testing.T, x *cursor.Table, want ...cursor.Cursor) {
	t.Helper()
	if x.Len() != len(want) {
		t.Errorf("there are %d, not %d", x.Len(), len(want))
	}
	for _, c := range want {
		if got, ok := x.Get(c.Owner, c.Id); !ok || !same(got, c) {
			t.Errorf("%+v, %v; not %+v", got, ok, c)
		}
	}
	there := func(owner, id int) bool {
		return slices.ContainsFunc(want, func(c cursor.Cursor) bool { return c.Owner == owner && c.Id == id })
	}
	for _, owner := range append(odd, 1, 2, 3, 7) {
		for id := -1; id < 14; id++ {
			if !there(owner, id) {
				none(t, x, owner, id)
			}
		}
		for _, id := range odd {
			none(t, x, owner, id)
		}
	}
	if x.Len() != len(want) {
		t.Error("something went")
	}
}

// none holds that nothing is done for an owner by a number.
func none(t *testing.T, x *cursor.Table, owner, id int) {
	t.Helper()
	if c, ok := x.Get(owner, id); ok || !same(c, cursor.Cursor{}) {
		t.Errorf("Get of %d, %d: %+v", owner, id, c)
	}
	if x.Move(owner, id, api.Prefix{Addr: 1 << 31, Len: 1}) {
		t.Errorf("Move of %d, %d", owner, id)
	}
	if c, ok := x.Close(owner, id); ok || !same(c, cursor.Cursor{}) {
		t.Errorf("Close of %d, %d: %+v", owner, id, c)
	}
}

// chance is numbers that come the same each time.
type chance uint32

func (x *chance) below(n int) int {
	*x ^= *x << 13
	*x ^= *x >> 17
	*x ^= *x << 5
	return int(uint32(*x) % uint32(n))
}

func pick[T any](x *chance, l ...T) T { return l[x.below(len(l))] }
