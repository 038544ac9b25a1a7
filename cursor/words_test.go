package cursor_test

import (
	"maps"
	"slices"
	"testing"

	"speculum/api"
	"speculum/cursor"
)

// model is what a table has to be, by the words of P26.1 and P26.2: all that were ever opened, and how they stand.
type model struct {
	most, life int
	all        map[int]cursor.Cursor
	last       int
}

// letGo lets cursors go: these, by Ids.
func (m *model) letGo(ids []int) []cursor.Cursor {
	slices.Sort(ids)
	var out []cursor.Cursor
	for _, id := range ids {
		out = append(out, m.all[id])
		delete(m.all, id)
	}
	return out
}

// those is the Ids of which that is so.
func (m *model) those(is func(c cursor.Cursor) bool) []int {
	var out []int
	for id, c := range m.all {
		if is(c) {
			out = append(out, id)
		}
	}
	return out
}

func (m *model) open(c cursor.Cursor) []cursor.Cursor {
	m.last++
	c.Id, c.Age = m.last, 0
	m.all[c.Id] = c
	if len(m.all) <= m.most {
		return nil
	}
	return m.letGo([]int{slices.Min(slices.Collect(maps.Keys(m.all)))})
}

func (m *model) tick() []cursor.Cursor {
	for id, c := range m.all {
		c.Age++
		m.all[id] = c
	}
	return m.letGo(m.those(func(c cursor.Cursor) bool { return c.Age == m.life }))
}

// check holds all that a table tells against it, and P26.3.
func (m *model) check(t *testing.T, x *cursor.Table) {
	t.Helper()
	if x.Len() != len(m.all) || x.Len() > m.most {
		t.Fatal(x.Len(), len(m.all))
	}
	for id := m.last - 15; id <= m.last+1; id++ {
		for owner := range 4 {
			want, there := m.all[id]
			there = there && want.Owner == owner
			if !there {
				want = cursor.Cursor{}
			}
			if got, ok := x.Get(owner, id); ok != there || !same(got, want) {
				t.Fatalf("%d of %d: %+v, %v; not %+v", id, owner, got, ok, want)
			}
		}
	}
}

// P26.3, and all others, by chance.
func TestAsTheWordsSay(t *testing.T) {
	x := chance(26)
	for most := range 9 {
		for range 12 {
			m := model{most, 1 + x.below(6), map[int]cursor.Cursor{}, 0}
			table := cursor.New(m.most, m.life)
			for range 200 {
				step(t, &x, &m, table)
				m.check(t, table)
			}
		}
	}
}

// step does one call.
func step(t *testing.T, x *chance, m *model, table *cursor.Table) {
	t.Helper()
	owner, id := x.below(4), max(0, m.last+1-x.below(11))
	c, there := m.all[id]
	there = there && c.Owner == owner
	switch x.below(9) {
	case 0, 1, 2, 3:
		c := made(owner, x.below(100))
		c.Id, c.Age = x.below(20), x.below(20)
		want := m.open(c)
		got, went := table.Open(c)
		if got != m.last {
			t.Fatal(got, m.last)
		}
		are(t, "open", went, want...)
	case 4, 5:
		after := api.Prefix{Addr: uint32(x.below(200)) << 24, Len: 8}
		if table.Move(owner, id, after) != there {
			t.Fatal(owner, id, there)
		}
		if there {
			c.After, c.Age = after, 0
			m.all[id] = c
		}
	case 6:
		got, ok := table.Close(owner, id)
		want := cursor.Cursor{}
		if there {
			want = m.letGo([]int{id})[0]
		}
		if ok != there || !same(got, want) {
			t.Fatal(got, ok, want)
		}
	case 7:
		are(t, "tick", table.Tick(), m.tick()...)
	default:
		if x.below(4) == 0 {
			are(t, "leave", table.Leave(owner), m.letGo(m.those(func(c cursor.Cursor) bool { return c.Owner == owner }))...)
		}
	}
}
