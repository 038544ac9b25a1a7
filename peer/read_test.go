package peer_test

import (
	"fmt"
	"slices"
	"testing"

	"speculum/api"
	"speculum/peer"
	"speculum/update"
)

// P24.2

// One connection from its OPEN on, a message behind the other.
func TestRead(t *testing.T) {
	for dir := range 2 {
		x := other(t, dir, api.SOpenSent, api.SActive)
		empty(t, "nothing", x, dir)
		x.Feed(dir, slices.Concat(opening(below), keepalive, gone, keepalive, news, parting))
		for _, want := range []string{
			":7 opensent>openconfirm [4]", ":12 openconfirm>established R", ":13 established>established N", ":12 established>established",
			":13 established>established N", ":11 established>idle HF",
		} {
			reads(t, dir, x, dir, fmt.Sprint(dir, want))
			empty(t, "the other one", x, 1-dir)
		}
		empty(t, "at the end", x, dir)
	}
}

// What an UPDATE says is told with its step.
func TestReadOfAnUpdate(t *testing.T) {
	ten := []api.Prefix{{Addr: 10 << 24, Len: 8}}
	for dir := range 2 {
		x := other(t, dir, api.SEstablished, api.SOpenSent)
		x.Feed(dir, slices.Concat(gone, news))
		for _, want := range []api.Update{
			{Gone: ten},
			{News: ten, Attrs: api.Attrs{Path: []api.Segment{{Kind: api.Seq, AS: []uint32{65001}}}, Next: 0x0a000001, Med: -1, Pref: -1}},
		} {
			l, ok := x.Read(dir)
			if !ok || len(l) != 1 || l[0].Dir != dir || !l[0].Out.New || !update.Same(l[0].Out.Update, want) {
				t.Errorf("%+v, %v", l, ok)
			}
		}
	}
}

// A fault is told once all ahead of it was read, at each state that hears.
func TestReadOfAFault(t *testing.T) {
	for _, c := range []struct {
		name string
		b    []byte
		want string
	}{
		{"sync", zeros, "header/sync"},
		{"length", message(api.MNotice, nil), "header/length 0013"},
		{"kind", message(5, nil), "header/type 05"},
		{"too long", append(slices.Repeat([]byte{255}, 16), 16, 1, 2), "header/length 1001"},
	} {
		for dir := range 2 {
			for state, text := range map[int]string{
				api.SOpenSent: ":8 opensent>idle [3] %s H", api.SOpenConfirm: ":8 openconfirm>idle [3] %s H", api.SEstablished: ":8 established>idle [3] %s HF",
			} {
				x := other(t, dir, state, api.SOpenSent)
				x.Feed(dir, c.b[:18])
				empty(t, c.name, x, dir)
				x.Feed(dir, c.b[18:])
				reads(t, c.name, x, dir, fmt.Sprint(dir)+fmt.Sprintf(text, c.want))
				empty(t, c.name, x, dir)
				want := [2]int{}
				want[1-dir] = api.SOpenSent
				states(t, c.name, x, want, [2]int{})
			}
			x := other(t, dir, api.SEstablished, api.SOpenSent)
			x.Feed(dir, slices.Concat(keepalive, c.b, keepalive))
			reads(t, c.name, x, dir, fmt.Sprint(dir, ":12 established>established"))
			reads(t, c.name, x, dir, fmt.Sprint(dir, ":8 established>idle [3] ", c.want, " HF"))
			// The next connection begins without that fault.
			x.Start()
			x.Up(dir)
			x.Feed(dir, opening(below))
			reads(t, c.name, x, dir, fmt.Sprint(dir, ":7 opensent>openconfirm [4]"))
		}
	}
}

// While the other one is established, whoever's Id is the greater.
func TestOpenBesideOneThatIsEstablished(t *testing.T) {
	for dir := range 2 {
		for _, id := range []uint32{below, above, 1, 1 << 31} {
			x := other(t, dir, api.SOpenSent, api.SEstablished)
			x.Feed(dir, slices.Concat(opening(id), keepalive))
			x.Feed(1-dir, keepalive[:4])
			reads(t, id, x, dir, fmt.Sprint(dir, ":10 opensent>idle [3] cease/collision H"))
			want, left := [2]int{}, [2]int{}
			want[1-dir], left[1-dir] = api.SEstablished, 4
			states(t, id, x, want, left)
			if x.Now() != 1-dir || x.Id() != below {
				t.Error(dir, x.Now(), x.Id())
			}
		}
	}
}

// While the other one is at SOpenConfirm the one stays that the side with the greater Id dialed.
func TestOpenBesideOneThatIsConfirmed(t *testing.T) {
	for _, c := range []struct {
		dir  int
		id   uint32
		want []string
		at   [2]int
	}{
		{0, below, []string{"1:10 openconfirm>idle [3] cease/collision H", "0:7 opensent>openconfirm [4]"}, [2]int{api.SOpenConfirm, api.SIdle}},
		{0, 1, []string{"1:10 openconfirm>idle [3] cease/collision H", "0:7 opensent>openconfirm [4]"}, [2]int{api.SOpenConfirm, api.SIdle}},
		{0, above, []string{"0:10 opensent>idle [3] cease/collision H"}, [2]int{api.SIdle, api.SOpenConfirm}},
		{0, 1 << 31, []string{"0:10 opensent>idle [3] cease/collision H"}, [2]int{api.SIdle, api.SOpenConfirm}},
		{1, below, []string{"1:10 opensent>idle [3] cease/collision H"}, [2]int{api.SOpenConfirm, api.SIdle}},
		{1, 1, []string{"1:10 opensent>idle [3] cease/collision H"}, [2]int{api.SOpenConfirm, api.SIdle}},
		{1, above, []string{"0:10 openconfirm>idle [3] cease/collision H", "1:7 opensent>openconfirm [4]"}, [2]int{api.SIdle, api.SOpenConfirm}},
		{1, 1 << 31, []string{"0:10 openconfirm>idle [3] cease/collision H", "1:7 opensent>openconfirm [4]"}, [2]int{api.SIdle, api.SOpenConfirm}},
	} {
		x := other(t, c.dir, api.SOpenSent, api.SOpenConfirm)
		x.Feed(c.dir, slices.Concat(opening(c.id), keepalive))
		x.Feed(1-c.dir, keepalive)
		reads(t, c, x, c.dir, c.want...)
		// Of the one that went nothing is left.
		left := [2]int{}
		kept := slices.Index(c.at[:], api.SOpenConfirm)
		left[kept] = 19
		states(t, c, x, c.at, left)
		empty(t, c, x, 1-kept)
		reads(t, c, x, kept, fmt.Sprint(kept, ":12 openconfirm>established R"))
		id := uint32(below)
		if kept == c.dir {
			id = c.id
		}
		if x.Now() != kept || x.Id() != id {
			t.Error(c, x.Now(), x.Id())
		}
	}
}

// Sent with both steps: the NOTIFICATION to the one that goes, the KEEPALIVE to the one that stays.
func TestSentBesideOneThatGoes(t *testing.T) {
	x := pair(t, api.SOpenSent, api.SOpenConfirm)
	x.Feed(0, opening(below))
	l, _ := x.Read(0)
	if len(l) != 2 || !slices.Equal(l[0].Out.Sent, message(3, []byte{6, 7})) || !slices.Equal(l[1].Out.Sent, keepalive) {
		t.Errorf("%+v", l)
	}
}

// This side's greatest and least Ids, of which the OPEN's is just above or below.
func TestIdsAtTheEdges(t *testing.T) {
	for _, c := range []struct {
		mine, id uint32
		kept     int
	}{
		{1<<32 - 1, 1<<32 - 2, 0}, {1<<32 - 2, 1<<32 - 1, 1}, {2, 1, 0}, {1, 2, 1}, {0, 1, 1}, {1 << 31, 1<<31 - 1, 0}, {1<<31 - 1, 1 << 31, 1},
	} {
		for dir := range 2 {
			l := us
			l.Id = c.mine
			x := peer.New(l, them)
			x.Start()
			x.Up(0)
			x.Up(1)
			feeds(t, x, 1-dir, opening(c.id))
			feeds(t, x, dir, opening(c.id))
			want := [2]int{}
			want[c.kept] = api.SOpenConfirm
			states(t, c, x, want, [2]int{})
		}
	}
}

// The Id that is asked is that of the OPEN that comes, not that of the one ahead.
func TestOfTwoIds(t *testing.T) {
	for dir := range 2 {
		for _, id := range []uint32{below, above} {
			x := other(t, dir, api.SOpenSent, api.SOpenSent)
			feeds(t, x, 1-dir, opening(below+above-id))
			feeds(t, x, dir, opening(id))
			kept := 1
			if id == below {
				kept = 0
			}
			if x.State(kept) != api.SOpenConfirm || x.State(1-kept) != api.SIdle {
				t.Error(dir, id, x.State(0), x.State(1))
			}
		}
	}
}

// An OPEN that would not be taken lets the other one be.
func TestOpenThatIsNotTaken(t *testing.T) {
	for _, c := range []struct {
		name string
		b    []byte
		want string
	}{
		{"this side's Id", opening(us.Id), "open/id"},
		{"no Id", opening(0), "open/id"},
		{"version", changed(below, func(o *said) { o.version = 5 }), "open/version 0004"},
		{"another system", changed(below, func(o *said) { o.as, o.caps = 65002, "00" }), "open/peer"},
		{"hold", changed(above, func(o *said) { o.hold = 2 }), "open/hold"},
		{"a parameter", changed(above, func(o *said) { o.caps = "02 0100" }), "open/param"},
		{"its form", changed(below, func(o *said) { o.caps = "02 02" }), "open"},
	} {
		for dir := range 2 {
			for others := range 6 {
				x := other(t, dir, api.SOpenSent, others)
				x.Feed(dir, c.b)
				reads(t, c.name, x, dir, fmt.Sprint(dir, ":9 opensent>idle [3] ", c.want, " H"))
				want := [2]int{}
				want[1-dir] = others
				states(t, c.name, x, want, [2]int{})
			}
		}
	}
}

// Beside one that is not so far both stay.
func TestOpenBesideOneThatIsNotSoFar(t *testing.T) {
	for dir := range 2 {
		for others := api.SIdle; others <= api.SOpenSent; others++ {
			for _, id := range []uint32{below, above} {
				x := other(t, dir, api.SOpenSent, others)
				x.Feed(dir, opening(id))
				reads(t, others, x, dir, fmt.Sprint(dir, ":7 opensent>openconfirm [4]"))
				want := [2]int{}
				want[dir], want[1-dir] = api.SOpenConfirm, others
				states(t, others, x, want, [2]int{})
			}
		}
	}
}

// An OPEN at another state than SOpenSent is one too many, and lets the other one be.
func TestOpenAtOtherStates(t *testing.T) {
	for dir := range 2 {
		for others := range api.SOpenConfirm {
			for state, text := range map[int]string{api.SOpenConfirm: ":7 openconfirm>idle [3] state H", api.SEstablished: ":7 established>idle [3] state HF"} {
				for _, id := range []uint32{below, above, us.Id} {
					x := other(t, dir, state, others)
					x.Feed(dir, opening(id))
					reads(t, others, x, dir, fmt.Sprint(dir, text))
					if x.State(1-dir) != others {
						t.Error(dir, others, x.State(1-dir))
					}
				}
			}
			x := other(t, dir, api.SIdle, others)
			x.Feed(dir, opening(below))
			empty(t, "idle", x, dir)
		}
	}
}

// Other messages let the other one be, however far it is.
func TestOtherMessagesBesideOne(t *testing.T) {
	for dir := range 2 {
		for others := range 6 {
			for b, text := range map[string]string{
				string(keepalive): ":12 opensent>idle [3] state H", string(gone): ":13 opensent>idle [3] state H", string(parting): ":11 opensent>idle H",
			} {
				x := other(t, dir, api.SOpenSent, others)
				x.Feed(dir, []byte(b))
				reads(t, text, x, dir, fmt.Sprint(dir, text))
				if x.State(1-dir) != others {
					t.Error(dir, others, x.State(1-dir))
				}
			}
		}
	}
}

// Others are no OPEN, though they have the body of one.
func TestNoOpenByItsBody(t *testing.T) {
	for dir := range 2 {
		for others := range 6 {
			for kind, text := range map[int]string{api.MUpdate: ":13 opensent>idle [3] state H", api.MNotice: ":11 opensent>idle H"} {
				for _, id := range []uint32{below, above} {
					x := other(t, dir, api.SOpenSent, others)
					x.Feed(dir, message(kind, opening(id)[19:]))
					reads(t, others, x, dir, fmt.Sprint(dir, text))
					if x.State(1-dir) != others {
						t.Error(dir, others, x.State(1-dir))
					}
				}
			}
		}
	}
}

// P24.4

// drain reads all that is there.
func drain(x *peer.Peer, dir int) []peer.Step {
	var out []peer.Step
	for {
		l, ok := x.Read(dir)
		if !ok {
			return out
		}
		out = append(out, l...)
	}
}

// inPieces brings pieces to one, and reads all that is there behind each.
func inPieces(x *peer.Peer, dir int, pieces ...[]byte) []peer.Step {
	var out []peer.Step
	for _, b := range pieces {
		x.Feed(dir, b)
		out = append(out, drain(x, dir)...)
	}
	return out
}

func TestCutAnywhere(t *testing.T) {
	for name, b := range map[string][]byte{
		"a whole one":          slices.Concat(opening(below), keepalive, news, gone, parting, keepalive),
		"from above":           slices.Concat(opening(above), keepalive, keepalive),
		"an OPEN of a fault":   slices.Concat(opening(0), opening(below)),
		"a second OPEN":        slices.Concat(opening(below), opening(below), keepalive),
		"an UPDATE of a fault": slices.Concat(opening(above), keepalive, noOrigin, news),
		"a head":               slices.Concat(opening(below), keepalive, zeros, keepalive),
		"not whole":            slices.Concat(opening(below), keepalive, news[:40]),
	} {
		for dir := range 2 {
			for _, others := range []int{api.SIdle, api.SOpenSent, api.SOpenConfirm, api.SEstablished} {
				whole := other(t, dir, api.SOpenSent, others)
				want := inPieces(whole, dir, b)
				check := func(pieces ...[]byte) {
					x := other(t, dir, api.SOpenSent, others)
					got := inPieces(x, dir, pieces...)
					if !slices.EqualFunc(got, want, sameStep) || x.Left(dir) != whole.Left(dir) || x.State(0) != whole.State(0) || x.State(1) != whole.State(1) {
						t.Fatalf("%s, %d, %d: %q, not %q", name, dir, others, brief(got), brief(want))
					}
				}
				for i := range b {
					check(b[:i], b[i:])
					check(b[:i/2], b[i/2:i], b[i:])
				}
				for n := 1; n <= len(b); n++ {
					check(slices.Collect(slices.Chunk(b, n))...)
				}
			}
		}
	}
}

// Rules 3 and 4: nil and empty are one; what is handed in is not changed, nor what lies in the room behind it.
func TestChangesNothing(t *testing.T) {
	for dir := range 2 {
		x := other(t, dir, api.SOpenSent, api.SActive)
		room := slices.Concat(opening(below), keepalive, news, []byte{91, 92, 93})
		b := room[:len(room)-3]
		was := slices.Clone(room)
		x.Feed(dir, b)
		x.Feed(dir, nil)
		x.Feed(dir, []byte{})
		x.Feed(dir, keepalive)
		drain(x, dir)
		if !slices.Equal(room, was) || x.Now() != dir || x.Left(dir) != 0 {
			t.Error(dir, room, x.Now(), x.Left(dir))
		}
	}
}

// Rule 5: peers know nothing of one another, and the same is told again.
func TestPeersAlone(t *testing.T) {
	way := func(x, y *peer.Peer) []peer.Step {
		l := x.Start()
		y.Start()
		l = append(l, x.Up(1)...)
		y.Up(1)
		x.Feed(1, opening(below)[:20])
		y.Feed(1, opening(above)[:20])
		x.Feed(1, opening(below)[20:])
		y.Feed(1, opening(above)[20:])
		drain(y, 1)
		l = append(l, drain(x, 1)...)
		y.Stop()
		x.Feed(1, keepalive)
		return append(l, drain(x, 1)...)
	}
	alone := func() []peer.Step { return way(peer.New(us, them), nil) }
	if got := way(peer.New(us, them), peer.New(us, them)); !slices.EqualFunc(got, alone(), sameStep) || !slices.EqualFunc(alone(), alone(), sameStep) || len(got) != 5 {
		t.Errorf("%q", brief(got))
	}
}
