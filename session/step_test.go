package session_test

import (
	"bytes"
	"fmt"
	"math"
	"slices"
	"strings"
	"testing"

	"speculum/api"
	"speculum/fsm"
	"speculum/notice"
	"speculum/session"
)

// letters are the deeds of fsm's table, each at its bit.
const letters = "DHOKNRFrLhkx"

// P23.1

func TestNew(t *testing.T) {
	for _, l := range []api.Local{us, {}, {AS: math.MaxUint32, Id: math.MaxUint32, Hold: math.MaxInt}, {Hold: -1}} {
		for _, p := range []api.Peer{outer, inner, {}, {AS: math.MaxUint32, Limit: -1}} {
			for _, passive := range []bool{false, true} {
				is(t, "new", session.New(l, p, passive), being{})
			}
		}
	}
}

func TestStart(t *testing.T) {
	s := session.New(us, outer, false)
	told(t, "start", s.Do(api.EvStart, api.Fault{}), session.Out{Trace: api.Trace{To: api.SConnect}, Dial: true})
	is(t, "start", s, being{state: api.SConnect, left: [3]int{10, 0, 0}})

	// A passive one waits, and does nothing.
	s = session.New(us, outer, true)
	told(t, "passive", s.Do(api.EvStart, api.Fault{}), session.Out{Trace: api.Trace{To: api.SActive}})
	is(t, "passive", s, being{state: api.SActive})
}

// One that was started goes on as if nothing had been, and one that is idle again starts as at first.
func TestStartAgain(t *testing.T) {
	for _, x := range setups() {
		for state := api.SConnect; state <= api.SEstablished; state++ {
			s := x.at(t, state)
			was := of(s)
			told(t, x, s.Do(api.EvStart, api.Fault{}), session.Out{Trace: api.Trace{From: state, To: state}})
			is(t, x, s, was)
			s.Do(api.EvStop, api.Fault{})
			fresh := session.New(x.local, x.peer, x.passive)
			told(t, x, s.Do(api.EvStart, api.Fault{}), fresh.Do(api.EvStart, api.Fault{}))
			is(t, x, s, of(fresh))
		}
	}
}

// The whole of a session, each message in bytes.
func TestAWholeSession(t *testing.T) {
	s := session.New(us, outer, false)
	trace := func(event, from, to int, sent ...int) api.Trace {
		return api.Trace{Event: event, From: from, To: to, Sent: sent}
	}
	for _, x := range []struct {
		name string
		do   func() session.Out
		want session.Out
		be   being
	}{
		{"start", func() session.Out { return s.Do(api.EvStart, api.Fault{}) },
			session.Out{Trace: trace(api.EvStart, 0, 1), Dial: true}, being{1, false, 0, 0, [3]int{10, 0, 0}}},
		{"down", func() session.Out { return s.Do(api.EvDown, api.Fault{}) },
			session.Out{Trace: trace(api.EvDown, 1, 2)}, being{2, false, 0, 0, [3]int{10, 0, 0}}},
		{"retry", func() session.Out { return s.Do(api.EvRetry, api.Fault{}) },
			session.Out{Trace: trace(api.EvRetry, 2, 1), Dial: true}, being{1, false, 0, 0, [3]int{10, 0, 0}}},
		{"up", func() session.Out { return s.Do(api.EvUp, api.Fault{}) },
			session.Out{Trace: trace(api.EvUp, 1, 3, api.MOpen), Sent: ourOpen}, being{3, false, 0, 0, [3]int{0, 240, 0}}},
		{"open", func() session.Out { return s.Message(api.MOpen, opening(65001, 30, peerId, true)) },
			session.Out{Trace: trace(api.EvOpen, 3, 4, api.MKeepalive), Sent: keepalive}, being{4, true, peerId, 30, [3]int{0, 30, 10}}},
		{"keepalive", func() session.Out { return s.Message(api.MKeepalive, nil) },
			session.Out{Trace: trace(api.EvKeepalive, 4, 5), Rise: true}, being{5, true, peerId, 30, [3]int{0, 30, 10}}},
		{"keep", func() session.Out { return s.Do(api.EvKeep, api.Fault{}) },
			session.Out{Trace: trace(api.EvKeep, 5, 5, api.MKeepalive), Sent: keepalive}, being{5, true, peerId, 30, [3]int{0, 30, 10}}},
		{"update", func() session.Out { return s.Message(api.MUpdate, hex("0002 080a 0000")) },
			session.Out{Trace: trace(api.EvUpdate, 5, 5), Update: api.Update{Gone: []api.Prefix{{Addr: 10 << 24, Len: 8}}}, New: true},
			being{5, true, peerId, 30, [3]int{0, 30, 10}}},
		{"stop", func() session.Out { return s.Do(api.EvStop, api.Fault{}) },
			session.Out{
				Trace: api.Trace{Event: api.EvStop, From: 5, Sent: []int{api.MNotice}, Fault: api.Fault{Code: 6, Sub: 2}},
				Sent:  message(3, []byte{6, 2}), Fall: true, Hang: true,
			}, being{}},
		{"stop again", func() session.Out { return s.Do(api.EvStop, api.Fault{}) }, session.Out{Trace: trace(api.EvStop, 0, 0)}, being{}},
		{"up while idle", func() session.Out { return s.Do(api.EvUp, api.Fault{}) }, session.Out{Trace: trace(api.EvUp, 0, 0), Hang: true}, being{}},
	} {
		told(t, x.name, x.do(), x.want)
		is(t, x.name, s, x.be)
	}
}

// after is what a session is behind an event, and what is told, by the words of P23.1.
func (x setup) after(was being, event int, f api.Fault) (being, session.Out) {
	to, deeds := fsm.Step(was.state, event)
	if x.passive && was.state == api.SIdle && event == api.EvStart {
		to, deeds = api.SActive, 0
	}
	does := func(letter string) bool { return deeds>>strings.Index(letters, letter)&1 == 1 }
	b := was
	b.state = to
	if does("x") {
		b.left = [3]int{}
	}
	if does("r") {
		b.left[0] = 10
	}
	if does("L") {
		b.left[1] = 240
	}
	if does("h") {
		b.left[1] = b.hold
	}
	if does("k") {
		b.left[2] = b.hold / 3
	}
	if to == api.SIdle {
		b = being{}
	}
	out := session.Out{Trace: api.Trace{Event: event, From: was.state, To: to}, Rise: does("R"), Fall: does("F"), Dial: does("D"), Hang: does("H")}
	if does("O") {
		out.Trace.Sent, out.Sent = append(out.Trace.Sent, 1), append(out.Sent, x.ours()...)
	}
	if does("K") {
		out.Trace.Sent, out.Sent = append(out.Trace.Sent, 4), append(out.Sent, keepalive...)
	}
	if does("N") {
		out.Trace.Fault = fsm.Fault(event, f)
		body, _ := notice.Put(out.Trace.Fault)
		out.Trace.Sent, out.Sent = append(out.Trace.Sent, 3), append(out.Sent, message(3, body)...)
	}
	return b, out
}

func TestEachEventAtEachState(t *testing.T) {
	fault := api.Fault{Code: 3, Sub: 4, Data: []byte{1, 2, 3}}
	for _, x := range setups() {
		for state := range 6 {
			for event := range api.Events {
				// Some ticks later it is seen which times are set anew; with 3 as hold Keep runs a tick alone.
				for ticks := range 3 {
					s := x.later(t, state, ticks)
					be, want := x.after(of(s), event, fault)
					name := fmt.Sprintf("%+v at %d, event %d, %d ticks later", x, state, event, ticks)
					told(t, name, s.Do(event, fault), want)
					is(t, name, s, be)
				}
			}
		}
	}
}

// Each deed's times, by hand.
func TestTimesBehindDeeds(t *testing.T) {
	for _, x := range []struct {
		name               string
		hold, state, ticks int
		event              int
		want               [3]int
	}{
		{"none is set", 90, api.SConnect, 4, api.EvStart, [3]int{6, 0, 0}},
		{"r at Connect", 90, api.SConnect, 4, api.EvRetry, [3]int{10, 0, 0}},
		{"r at Connect, by Down", 90, api.SConnect, 4, api.EvDown, [3]int{10, 0, 0}},
		{"r at Active", 90, api.SActive, 9, api.EvRetry, [3]int{10, 0, 0}},
		{"x and L", 90, api.SConnect, 4, api.EvUp, [3]int{0, 240, 0}},
		{"x and L at Active", 90, api.SActive, 4, api.EvUp, [3]int{0, 240, 0}},
		{"x and r", 90, api.SOpenSent, 4, api.EvDown, [3]int{10, 0, 0}},
		{"h and k without a hold", 90, api.SOpenSent, 4, api.EvOpen, [3]int{0, 0, 0}},
		{"k", 90, api.SOpenConfirm, 4, api.EvKeep, [3]int{0, 86, 30}},
		{"k of a hold of 0", 0, api.SOpenConfirm, 4, api.EvKeep, [3]int{0, 0, 0}},
		{"k of a hold of 3", 3, api.SEstablished, 0, api.EvKeep, [3]int{0, 3, 1}},
		{"k, rounded down", 11, api.SEstablished, 2, api.EvKeep, [3]int{0, 9, 3}},
		{"h", 90, api.SOpenConfirm, 4, api.EvKeepalive, [3]int{0, 90, 26}},
		{"h of a hold of 0", 0, api.SOpenConfirm, 4, api.EvKeepalive, [3]int{0, 0, 0}},
		{"h of a hold of 3", 3, api.SOpenConfirm, 1, api.EvKeepalive, [3]int{0, 3, 1}},
		{"h at Established", 10, api.SEstablished, 2, api.EvKeepalive, [3]int{0, 10, 1}},
		{"h by an UPDATE", 10, api.SEstablished, 2, api.EvUpdate, [3]int{0, 10, 1}},
		{"x", 90, api.SEstablished, 4, api.EvDown, [3]int{0, 0, 0}},
	} {
		s := usual(x.hold).later(t, x.state, x.ticks)
		s.Do(x.event, api.Fault{})
		if s.Clock().Left != x.want {
			t.Error(x.name, s.Clock().Left)
		}
	}
}

// Holds of both sides, the times behind the OPEN, and whether they run.
func TestHoldOfBoth(t *testing.T) {
	for _, x := range []struct{ ours, theirs, hold, keep int }{
		{90, 90, 90, 30}, {90, 30, 30, 10}, {30, 90, 30, 10}, {90, 0, 0, 0}, {0, 90, 0, 0}, {0, 0, 0, 0},
		{90, 3, 3, 1}, {3, 90, 3, 1}, {90, 4, 4, 1}, {90, 5, 5, 1}, {90, 6, 6, 2}, {90, 11, 11, 3},
		{1, 90, 1, 0}, {2, 90, 2, 0}, {-1, 90, 0, 0}, {math.MinInt, 3, 0, 0},
		{65535, 65535, 65535, 21845}, {65536, 65535, 65535, 21845}, {math.MaxInt, 65535, 65535, 21845}, {1 << 32, 65534, 65534, 21844}, {70000, 0, 0, 0},
	} {
		l := us
		l.Hold = x.ours
		s := setup{local: l, peer: outer, hold: x.theirs, wide: true}.at(t, api.SOpenConfirm)
		is(t, x, s, being{api.SOpenConfirm, true, peerId, x.hold, [3]int{0, x.hold, x.keep}})
		if c := s.Clock(); c.Runs(1) != (x.hold > 0) || c.Runs(2) != (x.keep > 0) || c.Runs(0) {
			t.Error(x, c)
		}
	}
}

// What is sent of sides whose number, or hold, finds no room in two bytes.
func TestOpensThatAreSent(t *testing.T) {
	for _, x := range []struct {
		l    api.Local
		want string
	}{
		{us, "04 fde8 005a 0a000009 08 0206 4104 0000fde8"},
		{api.Local{}, "04 0000 0000 00000000 08 0206 4104 00000000"},
		{api.Local{AS: 70000, Id: 1, Hold: 65536}, "04 5ba0 ffff 00000001 08 0206 4104 00011170"},
		{api.Local{AS: math.MaxUint32, Id: math.MaxUint32, Hold: -7}, "04 5ba0 0000 ffffffff 08 0206 4104 ffffffff"},
	} {
		for _, passive := range []bool{false, true} {
			s := session.New(x.l, outer, passive)
			s.Do(api.EvStart, api.Fault{})
			if out := s.Do(api.EvUp, api.Fault{}); !bytes.Equal(out.Sent, message(1, hex(x.want))) || !slices.Equal(out.Trace.Sent, []int{api.MOpen}) {
				t.Errorf("%+v: %x", x.l, out.Sent)
			}
		}
	}
}

func TestEventsThatAreNone(t *testing.T) {
	for _, x := range setups() {
		for state := range 6 {
			for _, event := range odd {
				s := x.later(t, state, 1)
				was := of(s)
				told(t, x, s.Do(event, api.Fault{Code: 3, Sub: 1}), session.Out{Trace: api.Trace{Event: event, From: state, To: state}})
				is(t, x, s, was)
			}
		}
	}
}

// Which fault a NOTIFICATION tells, and in which bytes, of one that is established.
func TestFaultsThatAreSent(t *testing.T) {
	f := api.Fault{Code: 3, Sub: 11, Data: []byte{1, 2}}
	for _, x := range []struct {
		event int
		want  api.Fault
		body  []byte
	}{
		{api.EvStop, api.Fault{Code: 6, Sub: 2}, []byte{6, 2}},
		{api.EvRetry, api.Fault{Code: 5}, []byte{5, 0}},
		{api.EvHold, api.Fault{Code: 4}, []byte{4, 0}},
		{api.EvOpen, api.Fault{Code: 5}, []byte{5, 0}},
		{api.EvBadHead, f, []byte{3, 11, 1, 2}},
		{api.EvBadOpen, f, []byte{3, 11, 1, 2}},
		{api.EvDump, api.Fault{Code: 6, Sub: 7}, []byte{6, 7}},
		{api.EvBadUpdate, f, []byte{3, 11, 1, 2}},
		{api.EvLimit, api.Fault{Code: 6, Sub: 1}, []byte{6, 1}},
	} {
		s := usual(90).at(t, api.SEstablished)
		told(t, x.event, s.Do(x.event, f), session.Out{
			Trace: api.Trace{Event: x.event, From: api.SEstablished, Sent: []int{api.MNotice}, Fault: x.want},
			Sent:  message(3, x.body), Fall: true, Hang: true,
		})
		is(t, x.event, s, being{})
	}
}

// A fault that finds no room in a body is told without one; it is what the Trace tells.
func TestWithoutABody(t *testing.T) {
	for _, x := range []struct {
		name string
		f    api.Fault
		body []byte
	}{
		{"none", api.Fault{}, []byte{0, 0}},
		{"most", api.Fault{Code: 255, Sub: 255, Data: make([]byte, 4075)}, slices.Concat([]byte{255, 255}, make([]byte, 4075))},
		{"too much Data", api.Fault{Code: 255, Sub: 255, Data: make([]byte, 4076)}, nil},
		{"a code of 256", api.Fault{Code: 256}, nil},
		{"a code of -1", api.Fault{Code: -1, Data: []byte{3}}, nil},
		{"a sub of 256", api.Fault{Code: 3, Sub: 256}, nil},
		{"a sub of -1", api.Fault{Code: 3, Sub: math.MinInt}, nil},
	} {
		for _, event := range []int{api.EvBadHead, api.EvBadOpen, api.EvBadUpdate} {
			for state := api.SOpenSent; state <= api.SEstablished; state++ {
				s := usual(90).at(t, state)
				told(t, x.name, s.Do(event, x.f), session.Out{
					Trace: api.Trace{Event: event, From: state, Sent: []int{api.MNotice}, Fault: x.f},
					Sent:  message(3, x.body), Fall: state == api.SEstablished, Hang: true,
				})
			}
		}
	}
}

// Of what is not sent no fault is told.
func TestNoFaultWithoutANotification(t *testing.T) {
	for state := range 6 {
		for event := range api.Events {
			out := usual(90).at(t, state).Do(event, api.Fault{Code: 1, Sub: 2, Data: []byte{3}})
			if !slices.Contains(out.Trace.Sent, api.MNotice) && !notice.Same(out.Trace.Fault, api.Fault{}) {
				t.Error(state, event, out.Trace)
			}
		}
	}
}

// One that is idle again goes on as one that is new, whatever it had come to.
func TestIdleIsAsNew(t *testing.T) {
	for _, x := range setups() {
		for state := range 6 {
			for event := range api.Events {
				s := x.later(t, state, 1)
				if s.Do(event, api.Fault{}); s.State() != api.SIdle {
					continue
				}
				is(t, x, s, being{})
				fresh := session.New(x.local, x.peer, x.passive)
				// An OPEN by its event alone tells no hold, so that of the last OPEN would be seen.
				for _, e := range []int{api.EvStart, api.EvUp, api.EvOpen, api.EvKeepalive} {
					told(t, x, s.Do(e, api.Fault{}), fresh.Do(e, api.Fault{}))
					is(t, x, s, of(fresh))
				}
				is(t, x, s, being{state: api.SEstablished})
			}
		}
	}
}
