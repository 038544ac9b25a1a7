package peer_test

import (
	"bytes"
	"fmt"
	"math"
	"slices"
	"strings"
	"testing"

	"speculum/api"
	"speculum/fsm"
	"speculum/notice"
	"speculum/octet"
	"speculum/peer"
	"speculum/session"
	"speculum/update"
)

// us is the side of all tests, them the peer; Ids are below and above us's.
var (
	us   = api.Local{AS: 65000, Id: 1000, Addr: 0x0a000009, Hold: 90}
	them = api.Peer{AS: 65001, Addr: 0x0a000001}
)

const (
	below = 999
	above = 1001
)

// none are dirs that there are not.
var none = []int{-1, 2, -2, 3, 1 << 32, -1 << 32, math.MaxInt, math.MinInt}

// hex is the bytes of digits, between which blanks may stand.
func hex(s string) []byte {
	b, ok := octet.Unhex(strings.ReplaceAll(s, " ", ""))
	if !ok {
		panic("no digits: " + s)
	}
	return b
}

// message is a message in bytes.
func message(kind int, body []byte) []byte {
	b := octet.Put16(bytes.Repeat([]byte{255}, 16), 19+len(body))
	return slices.Concat(b, []byte{byte(kind)}, body)
}

// opening is a peer's OPEN with an Id, of a hold of 30, wide.
func opening(id uint32) []byte { return changed(id, func(o *said) {}) }

// said is what an OPEN says.
type said struct {
	version, as, hold int
	caps              string
}

// changed is a peer's OPEN that says something else.
func changed(id uint32, change func(o *said)) []byte {
	o := said{4, 65001, 30, "08 0206 4104 0000fde9"}
	change(&o)
	head := octet.Put32(octet.Put16(octet.Put16([]byte{byte(o.version)}, o.as), o.hold), id)
	return message(api.MOpen, append(head, hex(o.caps)...))
}

var (
	keepalive = message(api.MKeepalive, nil)
	gone      = message(api.MUpdate, hex("0002 080a 0000"))
	news      = message(api.MUpdate, hex("0000 0014 400101 00 400206 0201 0000fde9 400304 0a000001 080a"))
	noOrigin  = message(api.MUpdate, hex("0000 0010 400206 0201 0000fde9 400304 0a000001 080a"))
	parting   = message(api.MNotice, []byte{6, 2})
	zeros     = make([]byte, 19)
)

// flags are letters of what is told beside a step.
func flags(o session.Out) string {
	out := ""
	for i, is := range []bool{o.Dial, o.Hang, o.Rise, o.Fall, o.New} {
		if is {
			out += string("DHRFN"[i])
		}
	}
	return out
}

// brief is steps as texts: which one, the event, both states, the kinds that were sent, the fault, and flags.
func brief(l []peer.Step) []string {
	var out []string
	for _, x := range l {
		t := x.Out.Trace
		text := fmt.Sprintf("%d:%d %s>%s %v %s %s", x.Dir, t.Event, fsm.Name(t.From), fsm.Name(t.To), t.Sent, notice.Text(t.Fault), flags(x.Out))
		out = append(out, strings.Join(strings.Fields(strings.ReplaceAll(text, "[]", "")), " "))
	}
	return out
}

// told holds steps against texts.
func told(t *testing.T, name any, got []peer.Step, want ...string) {
	t.Helper()
	if !slices.Equal(brief(got), want) {
		t.Errorf("%v: told %q, not %q", name, brief(got), want)
	}
}

// reads holds what Read told against texts.
func reads(t *testing.T, name any, x *peer.Peer, dir int, want ...string) {
	t.Helper()
	got, ok := x.Read(dir)
	if !ok {
		t.Errorf("%v: nothing was read", name)
	}
	told(t, name, got, want...)
}

// empty asks whether there is nothing to be read.
func empty(t *testing.T, name any, x *peer.Peer, dir int) {
	t.Helper()
	if got, ok := x.Read(dir); ok || len(got) != 0 {
		t.Errorf("%v: read %q, %v", name, brief(got), ok)
	}
}

func sameStep(a, b peer.Step) bool {
	s, u := a.Out, b.Out
	return a.Dir == b.Dir && s.Trace.Event == u.Trace.Event && s.Trace.From == u.Trace.From && s.Trace.To == u.Trace.To &&
		slices.Equal(s.Trace.Sent, u.Trace.Sent) && notice.Same(s.Trace.Fault, u.Trace.Fault) && bytes.Equal(s.Sent, u.Sent) &&
		update.Same(s.Update, u.Update) && flags(s) == flags(u)
}

// states holds both states, and how many bytes wait in both streams, against what they should be.
func states(t *testing.T, name any, x *peer.Peer, want [2]int, left [2]int) {
	t.Helper()
	if got := [2]int{x.State(0), x.State(1)}; got != want {
		t.Errorf("%v: at %v, not %v", name, got, want)
	}
	if got := [2]int{x.Left(0), x.Left(1)}; got != left {
		t.Errorf("%v: %v wait, not %v", name, got, left)
	}
}

// feeds brings messages to one, and reads them.
func feeds(t *testing.T, x *peer.Peer, dir int, l ...[]byte) {
	t.Helper()
	for _, b := range l {
		x.Feed(dir, b)
		if _, ok := x.Read(dir); !ok {
			t.Fatal(dir, b)
		}
	}
}

// bring brings one, that was started, to a state.
func bring(t *testing.T, x *peer.Peer, dir, state int, id uint32) {
	t.Helper()
	for x.State(dir) != api.SIdle && state == api.SIdle || x.State(dir) == api.SConnect && state == api.SActive {
		x.Down(dir)
	}
	if state >= api.SOpenSent {
		x.Up(dir)
	}
	if state >= api.SOpenConfirm {
		feeds(t, x, dir, opening(id))
	}
	if state == api.SEstablished {
		feeds(t, x, dir, keepalive)
	}
}

// pair is a peer whose sessions came to two states, of which at most one is beyond SOpenSent.
func pair(t *testing.T, first, second int) *peer.Peer {
	t.Helper()
	x := peer.New(us, them)
	x.Start()
	if second == api.SConnect {
		x.Up(1)
		x.Down(1)
		for range 10 {
			x.Tick()
		}
	}
	bring(t, x, 0, first, below)
	bring(t, x, 1, second, below)
	states(t, "pair", x, [2]int{first, second}, [2]int{})
	return x
}

// other is a pair of which dir is at one state, and the other one at another.
func other(t *testing.T, dir, state, others int) *peer.Peer {
	t.Helper()
	if dir == 0 {
		return pair(t, state, others)
	}
	return pair(t, others, state)
}

// pairs are all states of both that may be.
func pairs() [][2]int {
	var out [][2]int
	for a := range 6 {
		for b := range 6 {
			if a < api.SOpenConfirm || b < api.SOpenConfirm {
				out = append(out, [2]int{a, b})
			}
		}
	}
	return out
}

// chance is numbers that come the same each time.
type chance uint32

func (x *chance) below(n int) int {
	*x ^= *x << 13
	*x ^= *x >> 17
	*x ^= *x << 5
	return int(uint32(*x) % uint32(n))
}

func pick[T any](x *chance, l ...T) T { return l[x.below(len(l))] }
