package update_test

import (
	"bytes"
	"fmt"
	"math"
	"testing"

	"speculum/api"
	"speculum/attrs"
	"speculum/update"
)

// P5.3

func TestFill(t *testing.T) {
	const said = "000e 400101 00 400200 400304 0a000001"
	gone := list("10.0.0.0/8", "11.1.0.0/16", "0.0.0.0/0")
	news := list("12.0.0.0/8", "0.0.0.0/0", "1.2.3.4/32")
	both := api.Update{Gone: gone, Attrs: plain(), News: news}
	alone := api.Update{Attrs: plain(), News: news}
	for _, c := range []struct {
		name string
		u    api.Update
		room int
		body string
		left api.Update
	}{
		{"one Gone", both, 6, "0002 080a 0000", api.Update{Gone: gone[1:], Attrs: plain(), News: news}},
		// The second Gone has three bytes; the third, of one, does not go ahead of it.
		{"a byte more", both, 7, "0002 080a 0000", api.Update{Gone: gone[1:], Attrs: plain(), News: news}},
		{"two bytes more", both, 8, "0002 080a 0000", api.Update{Gone: gone[1:], Attrs: plain(), News: news}},
		{"two Gone", both, 9, "0005 080a 100b01 0000", api.Update{Gone: gone[2:], Attrs: plain(), News: news}},
		{"all Gone", both, 10, "0006 080a 100b01 00 0000", alone},
		// No News come with Gone, however much room there is.
		{"all Gone, room for all", both, 4077, "0006 080a 100b01 00 0000", alone},
		{"room past all", both, math.MaxInt, "0006 080a 100b01 00 0000", alone},
		{"one of News", alone, 20, "0000" + said + "080c", api.Update{Attrs: plain(), News: news[1:]}},
		{"two of News", alone, 21, "0000" + said + "080c 00", api.Update{Attrs: plain(), News: news[2:]}},
		{"not quite three", alone, 25, "0000" + said + "080c 00", api.Update{Attrs: plain(), News: news[2:]}},
		{"all News", alone, 26, "0000" + said + "080c 00 2001020304", api.Update{}},
		{"all News, room past all", alone, math.MaxInt, "0000" + said + "080c 00 2001020304", api.Update{}},
		// Without News there are no attributes, whatever was handed in.
		{"Gone with attributes alone", api.Update{Gone: gone, Attrs: full()}, 6, "0002 080a 0000", api.Update{Gone: gone[1:]}},
		{"all Gone with attributes alone", api.Update{Gone: gone, Attrs: attrs.Zero()}, 10, "0006 080a 100b01 00 0000", api.Update{}},
		{"wrong attributes without News", api.Update{Gone: gone[:1], Attrs: api.Attrs{Origin: 9}}, 6, "0002 080a 0000", api.Update{}},
		{"no prefixes", api.Update{}, 4077, "", api.Update{}},
		{"no prefixes, no room", api.Update{Gone: []api.Prefix{}, News: []api.Prefix{}}, 0, "", api.Update{}},
		{"attributes alone", api.Update{Attrs: full()}, math.MinInt, "", api.Update{}},
		{"wrong attributes alone", api.Update{Attrs: api.Attrs{Origin: 9}}, 4077, "", api.Update{}},
	} {
		b, left, e := update.Fill(c.u, true, c.room)
		if e != api.OK || !bytes.Equal(b, hex(c.body)) || !update.Same(left, c.left) {
			t.Errorf("%s: %x, %v, %d", c.name, b, left, e)
		}
	}
	// A wide path beside a narrow one takes room, too.
	u := api.Update{Attrs: with(func(a *api.Attrs) { a.Path = []api.Segment{seq(70000)} }), News: news}
	if b, _, e := update.Fill(u, false, 32); e != api.ELONG || len(b) != 0 {
		t.Errorf("%x, %d", b, e)
	}
	b, left, e := update.Fill(u, false, 33)
	if want := "0000 001b 400101 00 400204 0201 5ba0 400304 0a000001 c01106 0201 00011170 080c"; e != api.OK || !bytes.Equal(b, hex(want)) || len(left.News) != 2 {
		t.Errorf("%x, %v, %d", b, left, e)
	}
	if b, left, e := update.Fill(u, true, 26); e != api.OK || len(b) != 26 || len(left.News) != 2 {
		t.Errorf("%x, %v, %d", b, left, e)
	}
}

func TestFillFindsNoRoom(t *testing.T) {
	first := list("10.0.0.0/8", "0.0.0.0/0")
	for _, c := range []struct {
		name string
		u    api.Update
		most int // room in which the first one finds none
	}{
		{"Gone", api.Update{Gone: first}, 5},
		{"a Gone of a byte", api.Update{Gone: ones(1)}, 4},
		{"a Gone of five", api.Update{Gone: list("1.2.3.4/32", "0.0.0.0/0")}, 8},
		{"Gone ahead of News", api.Update{Gone: first, Attrs: plain(), News: ones(1)}, 5},
		{"News", api.Update{Attrs: plain(), News: first}, 19},
		{"one of News of a byte", api.Update{Attrs: plain(), News: ones(9)}, 18},
	} {
		for _, room := range []int{c.most, c.most - 1, 4, 3, 1, 0, -1, -4, -5000, math.MinInt, math.MinInt + 3, math.MinInt + 4} {
			b, left, e := update.Fill(c.u, true, room)
			if room <= c.most && (e != api.ELONG || len(b) != 0 || !update.Same(left, api.Update{})) {
				t.Errorf("%s, %d: %x, %v, %d", c.name, room, b, left, e)
			}
		}
		if b, _, e := update.Fill(c.u, true, c.most+1); e != api.OK || len(b) != c.most+1 {
			t.Errorf("%s: %x, %d", c.name, b, e)
		}
	}
}

func TestFillRefuses(t *testing.T) {
	for name, u := range wrong() {
		// What is not right comes ahead of what finds no room.
		for _, room := range []int{math.MinInt, 0, 4077, 100000} {
			if b, left, e := update.Fill(u, true, room); e != api.EARG || len(b) != 0 || !update.Same(left, api.Update{}) {
				t.Errorf("%s: %x, %v, %d", name, b, left, e)
			}
		}
	}
}

// However much room there is, a body has at most 4077 bytes.
func TestFillMost(t *testing.T) {
	for _, room := range []int{4077, 4078, 1 << 16, math.MaxInt} {
		b, left, e := update.Fill(api.Update{Gone: ones(5000)}, true, room)
		if e != api.OK || len(b) != 4077 || len(left.Gone) != 5000-4073 {
			t.Error(room, len(b), len(left.Gone), e)
		}
		b, left, e = update.Fill(api.Update{Attrs: plain(), News: ones(5000)}, true, room)
		if e != api.OK || len(b) != 4077 || len(left.News) != 5000-4059 || !attrs.Same(left.Attrs, plain()) {
			t.Error(room, len(b), len(left.News), e)
		}
	}
	if b, left, e := update.Fill(api.Update{Gone: ones(5000)}, true, 4076); e != api.OK || len(b) != 4076 || len(left.Gone) != 5000-4072 {
		t.Error(len(b), len(left.Gone), e)
	}
}

// Rule 4: what is handed in is not changed, nor the room behind it; what is left hangs together with nothing of it.
func TestFillChangesNothing(t *testing.T) {
	gone := list("10.0.0.0/8", "11.0.0.0/8", "12.0.0.0/8", "1.1.1.1/32")
	news := list("13.0.0.0/8", "14.0.0.0/8", "15.0.0.0/8", "2.2.2.2/32")
	u := api.Update{Gone: gone[:3], Attrs: full(), News: news[:3]}
	ahead := fmt.Sprint(gone, news, u)
	_, left, e := update.Fill(u, true, 6)
	if e != api.OK || len(left.Gone) != 2 {
		t.Fatal(left, e)
	}
	spoil(&left)
	_, left, e = update.Fill(api.Update{Attrs: u.Attrs, News: u.News}, true, 1000)
	if e != api.OK || !update.Same(left, api.Update{}) {
		t.Fatal(left, e)
	}
	b, _, _ := update.Fill(api.Update{Attrs: full(), News: ones(1)}, true, 1000)
	_, left, e = update.Fill(api.Update{Attrs: u.Attrs, News: u.News}, true, len(b)+1)
	if e != api.OK || len(left.News) != 2 {
		t.Fatal(left, e)
	}
	spoil(&left)
	if fmt.Sprint(gone, news, u) != ahead {
		t.Error(gone, news, u)
	}
}

// spoil writes into each list of an update, and behind it.
func spoil(u *api.Update) {
	for _, l := range [][]api.Prefix{u.Gone, u.News} {
		for i := range l {
			l[i] = api.Prefix{Addr: 9, Len: 9}
		}
		_ = append(l, api.Prefix{Addr: 8, Len: 8})
	}
	for _, s := range u.Attrs.Path {
		s.AS[0] = 1000
	}
	u.Attrs.Path[0] = api.Segment{}
	u.Attrs.Comms[0] = 1000
	u.Attrs.Raws[0].Data[0] = 100
	u.Attrs.Raws[1] = api.Raw{}
}

// P5.4: bodies one behind the other say all that was said, each as much as there is room for.
func TestFillAgainAndAgain(t *testing.T) {
	x := odd(2685821657736338717)
	for i := range 400 {
		u := x.update(150)
		room := 250 + x.below(300)
		if i%3 == 0 {
			u, room = x.update(1500), 3000+x.below(2000)
		}
		wide := i%2 == 0
		var all api.Update
		for left := u; len(left.Gone)+len(left.News) > 0; {
			b, behind, e := update.Fill(left, wide, room)
			one, f := update.Read(b, wide, true, 0)
			if e != api.OK || f.Code != 0 || len(b) > min(room, 4077) || len(one.Gone)+len(one.News) == 0 {
				t.Fatal(len(b), room, e, f)
			}
			if len(one.Gone) > 0 && len(one.News) > 0 || len(one.News) > 0 && !attrs.Same(one.Attrs, u.Attrs) {
				t.Fatal("gone and new at once, or other attributes", one)
			}
			longer := one
			switch {
			case len(behind.Gone) > 0:
				longer.Gone = append(longer.Gone, behind.Gone[0])
			case len(one.News) > 0 && len(behind.News) > 0:
				longer.News = append(longer.News, behind.News[0])
			}
			if more, _ := update.Put(longer, wide); !update.Same(longer, one) && len(more) > 0 && len(more) <= room {
				t.Fatal("one more found room", len(more), room)
			}
			all.Gone, all.News = append(all.Gone, one.Gone...), append(all.News, one.News...)
			if all.Attrs = one.Attrs; len(one.News) == 0 && len(u.News) > 0 {
				all.Attrs = u.Attrs
			}
			left = behind
		}
		if !update.Same(all, u) {
			t.Fatal(all, u)
		}
	}
}
