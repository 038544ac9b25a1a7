package session_test

import (
	"bytes"
	"math"
	"slices"
	"strings"
	"testing"

	"speculum/api"
	"speculum/clock"
	"speculum/notice"
	"speculum/octet"
	"speculum/session"
	"speculum/update"
)

// us is the side of all tests that don't say otherwise; outer and inner are peers of another system, and of this side's.
var (
	us    = api.Local{AS: 65000, Id: 0x0a000009, Addr: 0x0a000009, Hold: 90}
	outer = api.Peer{AS: 65001, Addr: 0x0a000001}
	inner = api.Peer{AS: 65000, Addr: 0x0a000002}
)

// peerId is the Id of a peer's OPEN where a test doesn't say otherwise.
const peerId = 0x0a000001

// odd are numbers of which there is no event.
var odd = []int{-1, 16, -2, 17, -16, 255, 256, 1 << 32, -1 << 32, math.MaxInt, math.MinInt}

// hex is the bytes of digits, between which blanks may stand.
func hex(s string) []byte {
	b, ok := octet.Unhex(strings.ReplaceAll(s, " ", ""))
	if !ok {
		panic("no digits: " + s)
	}
	return b
}

// message is a message in bytes.
func message(kind int, body []byte) []byte {
	b := octet.Put16(bytes.Repeat([]byte{255}, 16), 19+len(body))
	return slices.Concat(b, []byte{byte(kind)}, body)
}

var (
	keepalive = message(4, nil)
	// ourOpen is this side's OPEN.
	ourOpen = message(1, hex("04 fde8 005a 0a000009 08 0206 4104 0000fde8"))
)

// opening is the body of an OPEN, with the number in four bytes, too, if it is wide.
func opening(as uint32, hold int, id uint32, wide bool) []byte {
	short := int(as)
	if short > math.MaxUint16 {
		short = 23456
	}
	head := octet.Put32(octet.Put16(octet.Put16([]byte{4}, short), hold), id)
	if !wide {
		return append(head, 0)
	}
	return slices.Concat(head, hex("08 0206 4104"), octet.Put32(nil, as))
}

// being is what a session is.
type being struct {
	state int
	wide  bool
	id    uint32
	hold  int
	left  [3]int
}

func of(s *session.Session) being {
	return being{s.State(), s.Wide(), s.Id(), s.Hold(), s.Clock().Left}
}

// is holds what a session is against what it should be.
func is(t *testing.T, name any, s *session.Session, want being) {
	t.Helper()
	if got := of(s); got != want {
		t.Errorf("%v: is %+v, not %+v", name, got, want)
	}
}

func sameTrace(a, b api.Trace) bool {
	return a.Event == b.Event && a.From == b.From && a.To == b.To && slices.Equal(a.Sent, b.Sent) && notice.Same(a.Fault, b.Fault)
}

func same(a, b session.Out) bool {
	return sameTrace(a.Trace, b.Trace) && bytes.Equal(a.Sent, b.Sent) && update.Same(a.Update, b.Update) && a.New == b.New &&
		a.Rise == b.Rise && a.Fall == b.Fall && a.Dial == b.Dial && a.Hang == b.Hang
}

// told holds what a step told against what it should have.
func told(t *testing.T, name any, got, want session.Out) {
	t.Helper()
	if !same(got, want) {
		t.Errorf("%v: told %+v, not %+v", name, got, want)
	}
}

// setup is what a session is made of, and what its peer's OPEN says.
type setup struct {
	local   api.Local
	peer    api.Peer
	passive bool
	hold    int
	wide    bool
}

// usual is a setup with a peer of another system, whose hold is the lesser one.
func usual(hold int) setup { return setup{local: us, peer: outer, hold: hold, wide: true} }

// setups are all of some sides, peers, and OPENs.
func setups() []setup {
	var out []setup
	for _, peer := range []api.Peer{outer, inner} {
		for _, passive := range []bool{false, true} {
			for _, hold := range []int{0, 3, 10, 90} {
				for _, wide := range []bool{false, true} {
					out = append(out, setup{us, peer, passive, hold, wide})
				}
			}
		}
	}
	return out
}

func (x setup) opening() []byte { return opening(x.peer.AS, x.hold, peerId, x.wide) }

// ours is this side's OPEN, whose hold finds room.
func (x setup) ours() []byte {
	return message(1, opening(x.local.AS, x.local.Hold, x.local.Id, true))
}

// at is a session that came to a state.
func (x setup) at(t *testing.T, state int) *session.Session {
	t.Helper()
	s := session.New(x.local, x.peer, x.passive)
	do := func(events ...int) {
		for _, event := range events {
			s.Do(event, api.Fault{})
		}
	}
	switch state {
	case api.SConnect:
		do(api.EvStart, api.EvRetry)
	case api.SActive:
		do(api.EvStart, api.EvUp, api.EvDown)
	case api.SOpenSent, api.SOpenConfirm, api.SEstablished:
		do(api.EvStart, api.EvUp)
	}
	if state >= api.SOpenConfirm {
		s.Message(api.MOpen, x.opening())
	}
	if state == api.SEstablished {
		s.Message(api.MKeepalive, nil)
	}
	if s.State() != state {
		t.Fatalf("%+v: at %d, not %d", x, s.State(), state)
	}
	return s
}

// later is that session some ticks later, of which it must stand all.
func (x setup) later(t *testing.T, state, ticks int) *session.Session {
	t.Helper()
	s := x.at(t, state)
	for range ticks {
		s.Tick()
	}
	if s.State() != state {
		t.Fatalf("%+v: at %d, not %d, %d ticks later", x, s.State(), state, ticks)
	}
	return s
}

// running is a clock of three times.
func running(retry, hold, keep int) clock.Clock { return clock.Clock{Left: [3]int{retry, hold, keep}} }

// chance is numbers that come the same each time.
type chance uint32

func (x *chance) below(n int) int {
	*x ^= *x << 13
	*x ^= *x >> 17
	*x ^= *x << 5
	return int(uint32(*x) % uint32(n))
}

func pick[T any](x *chance, l ...T) T { return l[x.below(len(l))] }
