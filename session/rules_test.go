package session_test

import (
	"bytes"
	"fmt"
	"slices"
	"testing"

	"speculum/api"
	"speculum/session"
)

// Rule 2: with a fault nothing else is told, and nothing is taken over of an OPEN that has one.
func TestNothingBesideAFault(t *testing.T) {
	s := usual(90).at(t, api.SEstablished)
	out := s.Message(api.MUpdate, updating("080a", path+next, "080a"))
	if out.New || len(out.Update.Gone) != 0 || len(out.Update.News) != 0 {
		t.Error(out)
	}
	s = usual(90).at(t, api.SOpenSent)
	s.Message(api.MOpen, opening(65001, 1, peerId, true))
	is(t, "refused", s, being{})
}

// Rule 3: nil and empty are one.
func TestNilAndEmpty(t *testing.T) {
	for _, x := range setups() {
		for state := range 6 {
			for _, kind := range []int{1, 2, 3, 4, 5} {
				a, b := x.later(t, state, 1), x.later(t, state, 1)
				told(t, x, a.Message(kind, nil), b.Message(kind, []byte{}))
				is(t, x, a, of(b))
			}
			for event := range api.Events {
				a, b := x.later(t, state, 1), x.later(t, state, 1)
				told(t, x, a.Do(event, api.Fault{Code: 3}), b.Do(event, api.Fault{Code: 3, Data: []byte{}}))
				is(t, x, a, of(b))
			}
		}
	}
}

// Rule 4: what is handed in is not changed, nor what lies in the room behind a list's end.
func TestChangesNothing(t *testing.T) {
	handed := func(b []byte) []byte { return append(slices.Clone(b), 91, 92, 93, 94)[:len(b)] }
	for _, x := range setups() {
		for state := range 6 {
			for _, b := range [][]byte{x.opening(), updating("080a", origin+path+next+pref, "080a"), {6, 2}, nil} {
				for kind := range 6 {
					body := handed(b)
					x.at(t, state).Message(kind, body)
					if !bytes.Equal(body[:cap(body)][:len(b)+4], append(slices.Clone(b), 91, 92, 93, 94)) {
						t.Fatal(x, state, kind, body)
					}
				}
			}
			for event := range api.Events {
				f := api.Fault{Code: 3, Sub: 1, Data: handed([]byte{1, 2})}
				x.at(t, state).Do(event, f)
				if !bytes.Equal(f.Data[:6], []byte{1, 2, 91, 92, 93, 94}) {
					t.Fatal(x, state, event, f)
				}
			}
		}
	}
	p := outer
	p.In = []api.Rule{{Verdict: api.Deny}, {Verdict: api.Go}}[:1]
	ahead := fmt.Sprint(p, p.In[:2])
	setup{local: us, peer: p, hold: 90}.at(t, api.SEstablished)
	if fmt.Sprint(p, p.In[:2]) != ahead {
		t.Error(p)
	}
}

// Rule 5: a session knows nothing of others, nor what becomes of what was told; the same is told again.
func TestSessionsAlone(t *testing.T) {
	one, other := usual(9).at(t, api.SIdle), setup{local: api.Local{AS: 1, Id: 2, Hold: 30}, peer: inner, passive: true}.at(t, api.SIdle)
	// spoil changes all bytes, and numbers, of what was told.
	spoil := func(l ...session.Out) {
		for _, o := range l {
			for _, b := range [][]byte{o.Sent, o.Trace.Fault.Data} {
				for i := range b {
					b[i]++
				}
			}
			for i := range o.Trace.Sent {
				o.Trace.Sent[i] = 77
			}
		}
	}
	way := func(s *session.Session, spoiled bool) []session.Out {
		var l []session.Out
		add := func(more ...session.Out) {
			for _, o := range more {
				o.Sent, o.Trace.Sent = slices.Clone(o.Sent), slices.Clone(o.Trace.Sent)
				o.Trace.Fault.Data = slices.Clone(o.Trace.Fault.Data)
				l = append(l, o)
			}
			if spoiled {
				spoil(more...)
				spoil(other.Do(api.EvStart, api.Fault{}), other.Do(api.EvUp, api.Fault{}), other.Do(api.EvBadHead, api.Fault{Code: 1, Data: []byte{1}}))
			}
		}
		add(s.Do(api.EvStart, api.Fault{}))
		add(s.Do(api.EvUp, api.Fault{}))
		add(s.Message(api.MOpen, usual(9).opening()))
		add(s.Message(api.MKeepalive, nil))
		for range 4 {
			add(s.Tick()...)
		}
		add(s.Message(api.MUpdate, updating("080a", origin+path+next, "080a")))
		add(s.Message(api.MUpdate, updating("", "400101 03", "")))
		return l
	}
	want := way(session.New(us, outer, false), false)
	for range 2 {
		if got := way(one, true); !slices.EqualFunc(got, want, same) {
			t.Errorf("%+v, not %+v", got, want)
		}
	}
}

// Rule 6: one that no call made ends each call, too.
func TestThatNoCallMade(t *testing.T) {
	for event := -1; event <= api.Events; event++ {
		for kind := -1; kind < 6; kind++ {
			var s session.Session
			s.Do(api.EvStart, api.Fault{})
			s.Do(api.EvUp, api.Fault{})
			s.Message(kind, opening(0, 0, 1, true))
			s.Do(event, api.Fault{})
			s.Message(kind, nil)
			s.Tick()
		}
	}
}
