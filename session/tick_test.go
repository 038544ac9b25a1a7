package session_test

import (
	"slices"
	"testing"

	"speculum/api"
	"speculum/fsm"
	"speculum/open"
	"speculum/session"
	"speculum/update"
)

// events is what befell a session in what was told.
func events(l []session.Out) []int {
	var out []int
	for _, o := range l {
		out = append(out, o.Trace.Event)
	}
	return out
}

// pass lets some ticks pass, of which a session must stand all but the last; it tells what was told at that.
func pass(t *testing.T, s *session.Session, ticks int) []session.Out {
	t.Helper()
	var l []session.Out
	for n := range ticks {
		if l = s.Tick(); n < ticks-1 && s.State() == api.SIdle {
			t.Fatalf("fell at tick %d", n+1)
		}
	}
	return l
}

// P23.3

func TestTicksWithoutAnEnd(t *testing.T) {
	for _, x := range []struct {
		state, ticks int
		want         [3]int
	}{
		{api.SIdle, 1, [3]int{}}, {api.SIdle, 1000, [3]int{}},
		{api.SConnect, 1, [3]int{9, 0, 0}}, {api.SConnect, 9, [3]int{1, 0, 0}}, {api.SActive, 9, [3]int{1, 0, 0}},
		{api.SOpenSent, 1, [3]int{0, 239, 0}}, {api.SOpenSent, 239, [3]int{0, 1, 0}},
		{api.SOpenConfirm, 29, [3]int{0, 61, 1}}, {api.SEstablished, 29, [3]int{0, 61, 1}},
	} {
		s := usual(90).at(t, x.state)
		for range x.ticks {
			if l := s.Tick(); len(l) != 0 {
				t.Error(x, l)
			}
		}
		if s.State() != x.state || s.Clock().Left != x.want {
			t.Error(x, of(s))
		}
	}
	// A passive one waits as long as it may be, and so does one with a hold of 0.
	s := setup{local: us, peer: outer, passive: true}.at(t, api.SIdle)
	s.Do(api.EvStart, api.Fault{})
	for range 1000 {
		if l := s.Tick(); len(l) != 0 || s.State() != api.SActive {
			t.Fatal(l)
		}
	}
	for _, state := range []int{api.SOpenConfirm, api.SEstablished} {
		s := usual(0).at(t, state)
		for range 1000 {
			if l := s.Tick(); len(l) != 0 || s.State() != state {
				t.Fatal(l)
			}
		}
	}
}

func TestRetry(t *testing.T) {
	want := session.Out{Trace: api.Trace{Event: api.EvRetry, From: api.SConnect, To: api.SConnect}, Dial: true}
	for _, state := range []int{api.SConnect, api.SActive} {
		s := usual(90).at(t, state)
		for range 3 {
			l := pass(t, s, 10)
			if len(l) != 1 {
				t.Fatal(state, l)
			}
			want.Trace.From = state
			told(t, state, l[0], want)
			is(t, state, s, being{state: api.SConnect, left: [3]int{10, 0, 0}})
			state = api.SConnect
		}
	}
}

func TestKeep(t *testing.T) {
	for _, x := range []struct{ state, hold, third int }{
		{api.SOpenConfirm, 90, 30}, {api.SEstablished, 90, 30}, {api.SEstablished, 10, 3}, {api.SEstablished, 11, 3}, {api.SOpenConfirm, 3, 1}, {api.SEstablished, 5, 1},
	} {
		s := usual(x.hold).at(t, x.state)
		for n := x.third; n < x.hold; n += x.third {
			l := pass(t, s, x.third)
			if len(l) != 1 {
				t.Fatal(x, l)
			}
			told(t, x, l[0], session.Out{Trace: api.Trace{Event: api.EvKeep, From: x.state, To: x.state, Sent: []int{api.MKeepalive}}, Sent: keepalive})
			is(t, x, s, being{x.state, true, peerId, x.hold, [3]int{0, x.hold - n, x.third}})
		}
	}
}

// P23.4: who hears nothing for its hold falls, with 4 0.
func TestHold(t *testing.T) {
	for _, x := range []struct{ state, hold, ticks int }{
		{api.SOpenSent, 90, 240}, {api.SOpenSent, 0, 240}, {api.SOpenConfirm, 10, 10}, {api.SEstablished, 10, 10}, {api.SEstablished, 4, 4}, {api.SEstablished, 65535, 90},
	} {
		s := usual(x.hold).at(t, x.state)
		l := pass(t, s, x.ticks)
		if len(l) != 1 {
			t.Fatal(x, l)
		}
		told(t, x, l[0], refused(api.EvHold, x.state, api.Fault{Code: 4}))
		is(t, x, s, being{})
		if l := s.Tick(); len(l) != 0 {
			t.Error(x, l)
		}
	}
	// A hold of 1 or 2, which this side may have alone, has no third.
	for _, hold := range []int{1, 2} {
		l := us
		l.Hold = hold
		s := setup{local: l, peer: outer, hold: 90}.at(t, api.SEstablished)
		if got := events(pass(t, s, hold)); !slices.Equal(got, []int{api.EvHold}) || s.State() != api.SIdle {
			t.Error(hold, got)
		}
	}
}

// Where Hold and Keep come to 0 at once, Hold is ahead, and of one that is idle then nothing else is done.
func TestSeveralAtOnce(t *testing.T) {
	for _, hold := range []int{3, 6, 9, 90} {
		for _, state := range []int{api.SOpenConfirm, api.SEstablished} {
			s := usual(hold).later(t, state, hold-1)
			if c := s.Clock(); c.Left != [3]int{0, 1, 1} {
				t.Fatal(hold, c)
			}
			l := s.Tick()
			if len(l) != 1 {
				t.Fatal(hold, l)
			}
			told(t, hold, l[0], refused(api.EvHold, state, api.Fault{Code: 4}))
			is(t, hold, s, being{})
		}
	}
}

// Whatever comes lets Hold run anew, but not Keep.
func TestHeardAgain(t *testing.T) {
	s := usual(10).at(t, api.SEstablished)
	for n := 1; n < 200; n++ {
		l := s.Tick()
		if want := n%3 == 0; (len(l) == 1) != want || len(l) > 1 || want && l[0].Trace.Event != api.EvKeep {
			t.Fatal(n, l)
		}
		if n%9 == 0 {
			s.Message(api.MKeepalive, nil)
		} else if n%5 == 0 {
			s.Message(api.MUpdate, hex("0000 0000"))
		}
	}
	if s.State() != api.SEstablished {
		t.Error(of(s))
	}
}

func TestNil(t *testing.T) {
	var s *session.Session
	for range 2 {
		is(t, "nil", s, being{})
		for _, event := range append(odd, 0, api.EvStart, api.EvUp, api.EvHold, api.EvLimit) {
			told(t, event, s.Do(event, api.Fault{Code: 3, Sub: 1, Data: []byte{1}}), session.Out{})
		}
		for _, kind := range []int{-1, 0, 1, 2, 3, 4, 5} {
			told(t, kind, s.Message(kind, opening(65001, 90, peerId, true)), session.Out{})
		}
		if l := s.Tick(); len(l) != 0 {
			t.Error(l)
		}
	}
}

// P23.4

// exempt tells whether a step is one that need not be legal.
func exempt(x setup, t api.Trace) bool {
	return t.Event < 0 || t.Event >= api.Events || x.passive && t.Event == api.EvStart && t.From == api.SIdle
}

// world is a session that goes by chance, and what it should be by the words of the chapter.
type world struct {
	setup
	s  *session.Session
	be being
}

// step does one thing by chance; it tells what was told, and what should have been.
func (w *world) step(x *chance) ([]session.Out, []session.Out) {
	switch n := x.below(20); {
	case n < 9:
		return w.s.Tick(), w.tick()
	case n < 15:
		return w.further()
	case n < 17:
		event := x.below(api.Events)
		if x.below(8) == 0 {
			event = pick(x, odd...)
		}
		f := pick(x, api.Fault{}, api.Fault{Code: 3, Sub: 1}, api.Fault{Code: 1, Sub: 2, Data: []byte{0, 18}}, api.Fault{Code: 300})
		return w.event(event, f)
	}
	switch kind := pick(x, 1, 1, 2, 2, 3, 4, 5); kind {
	case api.MOpen:
		return w.comes(kind, opening(pick(x, w.peer.AS, w.peer.AS, 9), pick(x, 0, 1, 3, 10, 11, 90), pick(x, peerId, 7, us.Id), x.below(2) == 0))
	case api.MUpdate:
		return w.comes(kind, pick(x, updating("080a", "", ""), updating("", origin+path+next+pref, "080a"), updating("", origin+short+next+pref, "080a"), nil))
	default:
		return w.comes(kind, nil)
	}
}

// further does what leads on from a state.
func (w *world) further() ([]session.Out, []session.Out) {
	switch w.be.state {
	case api.SIdle:
		return w.event(api.EvStart, api.Fault{})
	case api.SConnect, api.SActive:
		return w.event(api.EvUp, api.Fault{})
	case api.SOpenSent:
		return w.comes(api.MOpen, w.opening())
	}
	return w.comes(api.MKeepalive, nil)
}

func (w *world) event(event int, f api.Fault) ([]session.Out, []session.Out) {
	return []session.Out{w.s.Do(event, f)}, []session.Out{w.do(event, f)}
}

func (w *world) comes(kind int, body []byte) ([]session.Out, []session.Out) {
	return []session.Out{w.s.Message(kind, body)}, []session.Out{w.message(kind, body)}
}

func (w *world) do(event int, f api.Fault) session.Out {
	if event < 0 || event >= api.Events {
		return session.Out{Trace: api.Trace{Event: event, From: w.be.state, To: w.be.state}}
	}
	be, out := w.after(w.be, event, f)
	w.be = be
	return out
}

func (w *world) tick() []session.Out {
	var out []session.Out
	var ended []int
	for which := range w.be.left {
		if w.be.left[which] > 0 {
			if w.be.left[which]--; w.be.left[which] == 0 {
				ended = append(ended, which)
			}
		}
	}
	for _, which := range ended {
		if w.be.state != api.SIdle {
			out = append(out, w.do(api.EvRetry+which, api.Fault{}))
		}
	}
	return out
}

func (w *world) message(kind int, body []byte) session.Out {
	switch {
	case kind == api.MOpen && w.be.state == api.SOpenSent:
		return w.open(body)
	case kind == api.MUpdate && w.be.state == api.SEstablished:
		return w.update(body)
	}
	event, ok := map[int]int{api.MOpen: api.EvOpen, api.MUpdate: api.EvUpdate, api.MNotice: api.EvNotice, api.MKeepalive: api.EvKeepalive}[kind]
	if !ok {
		return w.do(api.EvBadHead, api.Fault{Code: 1, Sub: 3})
	}
	return w.do(event, api.Fault{})
}

func (w *world) open(body []byte) session.Out {
	o, f := open.Read(body)
	if f.Code == 0 {
		f = open.Check(o, w.peer.AS, w.local.Id)
	}
	if f.Code != 0 {
		return w.do(api.EvBadOpen, f)
	}
	w.be.id, w.be.hold = o.Id, open.Hold(o.Hold, w.local.Hold)
	_, w.be.wide = open.Wide(o)
	return w.do(api.EvOpen, api.Fault{})
}

func (w *world) update(body []byte) session.Out {
	u, f := update.Read(body, w.be.wide, w.peer.AS == w.local.AS, w.peer.AS)
	if f.Code != 0 {
		return w.do(api.EvBadUpdate, f)
	}
	out := w.do(api.EvUpdate, api.Fault{})
	out.Update, out.New = u, true
	return out
}

func TestByChance(t *testing.T) {
	x := chance(2463534242)
	met := map[[2]int]int{}
	for range 300 {
		l := us
		l.Hold = pick(&x, 90, 10, 9, 3, 1, 0)
		w := &world{setup: setup{local: l, peer: pick(&x, outer, inner), passive: x.below(2) == 0, hold: pick(&x, 0, 3, 10), wide: x.below(2) == 0}}
		w.s = session.New(l, w.peer, w.passive)
		for n := range 400 {
			got, want := w.step(&x)
			if !slices.EqualFunc(got, want, same) || of(w.s) != w.be {
				t.Fatalf("%+v, step %d: %+v, not %+v; is %+v, not %+v", w.setup, n, got, want, of(w.s), w.be)
			}
			for _, o := range got {
				met[[2]int{o.Trace.From, o.Trace.Event}]++
				if !exempt(w.setup, o.Trace) && !fsm.Legal(o.Trace) {
					t.Fatal(o.Trace)
				}
				if exempt(w.setup, o.Trace) && fsm.Legal(o.Trace) {
					t.Fatal("legal, which it is not", o.Trace)
				}
			}
		}
	}
	for from := range 6 {
		for event := range api.Events {
			if met[[2]int{from, event}] == 0 {
				t.Error("not met: state", from, "event", event)
			}
		}
	}
}
