package peer_test

import (
	"bytes"
	"fmt"
	"slices"
	"testing"

	"speculum/api"
	"speculum/frame"
	"speculum/peer"
	"speculum/session"
)

// P24.1

func TestNew(t *testing.T) {
	for _, l := range []api.Local{us, {}, {Hold: -1}} {
		for _, p := range []api.Peer{them, {}, {AS: 65000, Limit: -1}} {
			x := peer.New(l, p)
			states(t, "new", x, [2]int{}, [2]int{})
			if x.Now() != -1 || x.Wide() || x.Id() != 0 {
				t.Error(x.Now(), x.Wide(), x.Id())
			}
			empty(t, "new", x, 0)
			empty(t, "new", x, 1)
			told(t, "new", x.Tick())
			told(t, "new", x.Limit())
		}
	}
}

func TestStart(t *testing.T) {
	x := peer.New(us, them)
	told(t, "start", x.Start(), "0:0 idle>connect D", "1:0 idle>active")
	states(t, "start", x, [2]int{api.SConnect, api.SActive}, [2]int{})
	told(t, "again", x.Start(), "0:0 connect>connect", "1:0 active>active")
	x.Down(1)
	told(t, "one is idle", x.Start(), "0:0 connect>connect", "1:0 idle>active")
	told(t, "both", pair(t, api.SEstablished, api.SOpenSent).Start(), "0:0 established>established", "1:0 opensent>opensent")
}

func TestStop(t *testing.T) {
	for _, c := range []struct {
		at   [2]int
		want []string
	}{
		{[2]int{api.SIdle, api.SIdle}, []string{"0:1 idle>idle", "1:1 idle>idle"}},
		{[2]int{api.SConnect, api.SActive}, []string{"0:1 connect>idle H", "1:1 active>idle H"}},
		{[2]int{api.SActive, api.SConnect}, []string{"0:1 active>idle H", "1:1 connect>idle H"}},
		{[2]int{api.SOpenSent, api.SOpenSent}, []string{"0:1 opensent>idle [3] cease/shutdown H", "1:1 opensent>idle [3] cease/shutdown H"}},
		{[2]int{api.SOpenSent, api.SOpenConfirm}, []string{"0:1 opensent>idle [3] cease/shutdown H", "1:1 openconfirm>idle [3] cease/shutdown H"}},
		{[2]int{api.SEstablished, api.SIdle}, []string{"0:1 established>idle [3] cease/shutdown HF", "1:1 idle>idle"}},
		{[2]int{api.SActive, api.SEstablished}, []string{"0:1 active>idle H", "1:1 established>idle [3] cease/shutdown HF"}},
	} {
		x := pair(t, c.at[0], c.at[1])
		told(t, c.at, x.Stop(), c.want...)
		states(t, c.at, x, [2]int{}, [2]int{})
	}
}

// Both go up and down alone.
func TestUpAndDown(t *testing.T) {
	x := peer.New(us, them)
	for dir := range 2 {
		told(t, "up while idle", x.Up(dir), fmt.Sprint(dir, ":2 idle>idle H"))
		told(t, "down while idle", x.Down(dir), fmt.Sprint(dir, ":3 idle>idle"))
	}
	x.Start()
	told(t, "up 0", x.Up(0), "0:2 connect>opensent [1]")
	states(t, "up 0", x, [2]int{api.SOpenSent, api.SActive}, [2]int{})
	told(t, "up 1", x.Up(1), "1:2 active>opensent [1]")
	states(t, "up 1", x, [2]int{api.SOpenSent, api.SOpenSent}, [2]int{})
	told(t, "up 0 again", x.Up(0), "0:2 opensent>opensent")
	told(t, "down 0", x.Down(0), "0:3 opensent>active")
	states(t, "down 0", x, [2]int{api.SActive, api.SOpenSent}, [2]int{})
	told(t, "down 1", x.Down(1), "1:3 opensent>active")
	told(t, "down 1 again", x.Down(1), "1:3 active>idle H")
	told(t, "up 0", x.Up(0), "0:2 active>opensent [1]")
	states(t, "up 0", x, [2]int{api.SOpenSent, api.SIdle}, [2]int{})
	for dir := range 2 {
		x := other(t, dir, api.SEstablished, api.SOpenSent)
		told(t, "established", x.Up(dir), fmt.Sprint(dir, ":2 established>established"))
		told(t, "falls", x.Down(dir), fmt.Sprint(dir, ":3 established>idle F"))
		if x.State(1-dir) != api.SOpenSent {
			t.Error(dir, x.State(1-dir))
		}
	}
}

// What is sent with Up is this side's OPEN, whole.
func TestSentWithUp(t *testing.T) {
	x := peer.New(us, them)
	x.Start()
	for dir := range 2 {
		l := x.Up(dir)
		if len(l) != 1 || !bytes.Equal(l[0].Out.Sent, message(1, hex("04 fde8 005a 000003e8 08 0206 4104 0000fde8"))) {
			t.Error(dir, l)
		}
	}
}

func TestLimit(t *testing.T) {
	for _, at := range pairs() {
		x := pair(t, at[0], at[1])
		want := []string(nil)
		for dir, state := range at {
			if state == api.SEstablished {
				want = append(want, fmt.Sprint(dir, ":15 established>idle [3] cease/limit HF"))
				at[dir] = api.SIdle
			}
		}
		told(t, at, x.Limit(), want...)
		states(t, at, x, at, [2]int{})
		told(t, at, x.Limit())
	}
}

func TestTick(t *testing.T) {
	x := peer.New(us, them)
	x.Start()
	for range 9 {
		told(t, "ahead", x.Tick())
	}
	told(t, "the one that dials", x.Tick(), "0:4 connect>connect D")
	// Both tick, the first one ahead.
	x.Up(1)
	x.Up(0)
	for range 239 {
		told(t, "both wait", x.Tick())
	}
	told(t, "both fall", x.Tick(), "0:5 opensent>idle [3] hold H", "1:5 opensent>idle [3] hold H")
	told(t, "both idle", x.Tick())

	for dir := range 2 {
		x := other(t, dir, api.SEstablished, api.SOpenSent)
		for n := 1; n <= 30; n++ {
			want := []string(nil)
			switch {
			case n == 30:
				want = []string{fmt.Sprint(dir, ":5 established>idle [3] hold HF")}
			case n%10 == 0:
				want = []string{fmt.Sprint(dir, ":6 established>established [4]")}
			}
			told(t, n, x.Tick(), want...)
		}
	}
}

func TestFeed(t *testing.T) {
	for _, at := range pairs() {
		for dir := range 2 {
			x := pair(t, at[0], at[1])
			x.Feed(dir, nil)
			x.Feed(dir, []byte{})
			states(t, at, x, at, [2]int{})
			want := [2]int{}
			if at[dir] >= api.SOpenSent {
				want[dir] = 10
			}
			x.Feed(dir, keepalive[:10])
			states(t, at, x, at, want)
			if at[dir] >= api.SOpenSent {
				want[dir] = 18
			}
			x.Feed(dir, keepalive[10:18])
			states(t, at, x, at, want)
			empty(t, at, x, dir)
			empty(t, at, x, 1-dir)
			states(t, at, x, at, want)
		}
	}
}

// Behind each step that leads to where nobody hears nothing of what came stays; the other one's bytes do.
func TestStreamsBehindSteps(t *testing.T) {
	for _, c := range []struct {
		name  string
		state int
		do    func(x *peer.Peer, dir int)
		want  int
	}{
		{"down", api.SOpenSent, func(x *peer.Peer, dir int) { x.Down(dir) }, api.SActive},
		{"down", api.SOpenConfirm, func(x *peer.Peer, dir int) { x.Down(dir) }, api.SIdle},
		{"down", api.SEstablished, func(x *peer.Peer, dir int) { x.Down(dir) }, api.SIdle},
		{"limit", api.SEstablished, func(x *peer.Peer, dir int) { x.Limit() }, api.SIdle},
		{"hold", api.SEstablished, func(x *peer.Peer, dir int) {
			for range 30 {
				x.Tick()
			}
		}, api.SIdle},
	} {
		for dir := range 2 {
			x := other(t, dir, c.state, api.SOpenSent)
			x.Feed(dir, slices.Concat(keepalive, keepalive[:7]))
			x.Feed(1-dir, keepalive[:5])
			c.do(x, dir)
			want, left := [2]int{}, [2]int{}
			want[dir], want[1-dir], left[1-dir] = c.want, api.SOpenSent, 5
			states(t, c.name, x, want, left)
			empty(t, c.name, x, dir)
			x.Feed(dir, keepalive)
			states(t, c.name, x, want, left)
		}
	}
	for dir := range 2 {
		x := other(t, dir, api.SOpenSent, api.SOpenSent)
		x.Feed(dir, keepalive)
		x.Feed(1-dir, keepalive)
		x.Stop()
		states(t, "stop", x, [2]int{}, [2]int{})
	}
}

// By a message that leads there, too.
func TestStreamsBehindMessages(t *testing.T) {
	for _, c := range []struct {
		name  string
		state int
		b     []byte
		want  string
	}{
		{"a KEEPALIVE too early", api.SOpenSent, keepalive, ":12 opensent>idle [3] state H"},
		{"an OPEN that is none", api.SOpenSent, changed(below, func(o *said) { o.version = 3 }), ":9 opensent>idle [3] open/version 0004 H"},
		{"a second OPEN", api.SOpenConfirm, opening(below), ":7 openconfirm>idle [3] state H"},
		{"a NOTIFICATION", api.SEstablished, parting, ":11 established>idle HF"},
		{"an UPDATE", api.SEstablished, noOrigin, ":14 established>idle [3] update/missing 01 HF"},
		{"a head", api.SEstablished, zeros, ":8 established>idle [3] header/sync HF"},
	} {
		for dir := range 2 {
			x := other(t, dir, c.state, api.SOpenSent)
			x.Feed(dir, slices.Concat(c.b, keepalive, keepalive[:7]))
			x.Feed(1-dir, keepalive[:5])
			reads(t, c.name, x, dir, fmt.Sprint(dir, c.want))
			want, left := [2]int{}, [2]int{}
			want[1-dir], left[1-dir] = api.SOpenSent, 5
			states(t, c.name, x, want, left)
			empty(t, c.name, x, dir)
		}
	}
}

// With Up its stream is a new one at any state; the other one's stays.
func TestUpForgets(t *testing.T) {
	for _, at := range pairs() {
		for dir := range 2 {
			x := pair(t, at[0], at[1])
			x.Feed(0, keepalive[:9])
			x.Feed(1, keepalive[:9])
			left := [2]int{x.Left(0), x.Left(1)}
			left[dir] = 0
			x.Up(dir)
			want := at
			if at[dir] == api.SConnect || at[dir] == api.SActive {
				want[dir] = api.SOpenSent
			}
			states(t, at, x, want, left)
		}
	}
	// What comes then is read from its beginning on.
	x := pair(t, api.SOpenSent, api.SIdle)
	x.Feed(0, keepalive[:9])
	x.Up(0)
	x.Feed(0, opening(below))
	reads(t, "behind up", x, 0, "0:7 opensent>openconfirm [4]")
}

// P24.3

func TestNow(t *testing.T) {
	for _, at := range pairs() {
		x := pair(t, at[0], at[1])
		now, wide, id := slices.Index(at[:], api.SEstablished), false, uint32(0)
		if now >= 0 {
			wide, id = true, below
		}
		if x.Now() != now || x.Wide() != wide || x.Id() != id {
			t.Error(at, x.Now(), x.Wide(), x.Id())
		}
	}
	for dir := range 2 {
		x := other(t, dir, api.SOpenSent, api.SActive)
		feeds(t, x, dir, changed(above, func(o *said) { o.caps = "00" }), keepalive)
		if x.Now() != dir || x.Wide() || x.Id() != above {
			t.Error(dir, x.Now(), x.Wide(), x.Id())
		}
	}
}

// nothing asks whether all calls tell nothing of a dir.
func nothing(t *testing.T, name any, x *peer.Peer, dir int) {
	t.Helper()
	for _, l := range [][]peer.Step{x.Up(dir), x.Down(dir)} {
		told(t, name, l)
	}
	x.Feed(dir, opening(below))
	x.Feed(dir, zeros)
	empty(t, name, x, dir)
	if x.State(dir) != 0 || x.Left(dir) != 0 {
		t.Error(name, x.State(dir), x.Left(dir))
	}
}

func TestDirsThatAreNone(t *testing.T) {
	for _, at := range pairs() {
		x := pair(t, at[0], at[1])
		x.Feed(0, keepalive)
		x.Feed(1, keepalive)
		left := [2]int{x.Left(0), x.Left(1)}
		for _, dir := range none {
			nothing(t, dir, x, dir)
		}
		states(t, "none", x, at, left)
	}
}

func TestOfNoPeer(t *testing.T) {
	for name, x := range map[string]*peer.Peer{"nil": nil, "that New did not make": {}} {
		for range 2 {
			for _, dir := range append([]int{0, 1}, none...) {
				nothing(t, name, x, dir)
			}
			for _, l := range [][]peer.Step{x.Start(), x.Stop(), x.Limit(), x.Tick()} {
				told(t, name, l)
			}
			if x.Now() != -1 || x.Wide() || x.Id() != 0 {
				t.Error(name, x.Now(), x.Wide(), x.Id())
			}
		}
	}
}

// model is a peer by the words of the chapter, of sessions and streams as they are.
type model struct {
	l       api.Local
	s       [2]*session.Session
	streams [2]*frame.Stream
}

func modelOf(l api.Local, p api.Peer) *model {
	return &model{l, [2]*session.Session{session.New(l, p, false), session.New(l, p, true)}, [2]*frame.Stream{frame.New(), frame.New()}}
}

// told is steps of one, behind which its stream may be a new one.
func (m *model) told(dir int, outs ...session.Out) []peer.Step {
	var l []peer.Step
	for _, o := range outs {
		l = append(l, peer.Step{Dir: dir, Out: o})
	}
	if slices.Contains([]int{api.SIdle, api.SConnect, api.SActive}, m.s[dir].State()) {
		m.streams[dir] = frame.New()
	}
	return l
}

func (m *model) do(dir, event int) []peer.Step {
	return m.told(dir, m.s[dir].Do(event, api.Fault{}))
}

func (m *model) up(dir int) []peer.Step {
	m.streams[dir] = frame.New()
	return m.do(dir, api.EvUp)
}

func (m *model) limit() []peer.Step {
	for dir := range 2 {
		if m.s[dir].State() == api.SEstablished {
			return m.do(dir, api.EvLimit)
		}
	}
	return nil
}

func (m *model) feed(dir int, b []byte) {
	if m.s[dir].State() >= api.SOpenSent {
		m.streams[dir].Feed(b)
	}
}

// read knows of an OPEN whether it is taken by what a twin of the session says of it.
func (m *model) read(dir int) ([]peer.Step, bool) {
	kind, body, ok := m.streams[dir].Next()
	if f := m.streams[dir].Fault(); f.Code != 0 {
		return m.told(dir, m.s[dir].Do(api.EvBadHead, f)), true
	}
	if !ok {
		return nil, false
	}
	twin := session.New(m.l, them, false)
	twin.Do(api.EvStart, api.Fault{})
	twin.Do(api.EvUp, api.Fault{})
	twin.Message(kind, body)
	if m.s[dir].State() == api.SOpenSent && twin.State() == api.SOpenConfirm {
		switch m.s[1-dir].State() {
		case api.SEstablished:
			return m.do(dir, api.EvDump), true
		case api.SOpenConfirm:
			kept := 1
			if m.l.Id > twin.Id() {
				kept = 0
			}
			if kept != dir {
				return m.do(dir, api.EvDump), true
			}
			return append(m.do(1-dir, api.EvDump), m.told(dir, m.s[dir].Message(kind, body))...), true
		}
	}
	return m.told(dir, m.s[dir].Message(kind, body)), true
}

// asAll holds a peer against a model.
func (m *model) asAll(x *peer.Peer) bool {
	now := -1
	for dir := range 2 {
		if x.State(dir) != m.s[dir].State() || x.Left(dir) != m.streams[dir].Left() {
			return false
		}
		if m.s[dir].State() == api.SEstablished {
			now = dir
		}
	}
	if now < 0 {
		return x.Now() == -1 && !x.Wide() && x.Id() == 0
	}
	return x.Now() == now && x.Wide() == m.s[now].Wide() && x.Id() == m.s[now].Id()
}

// coming is bytes by chance that may come to one at a state; most lead on.
func coming(x *chance, state int) []byte {
	if x.below(4) > 0 {
		switch state {
		case api.SOpenSent:
			return opening(pick[uint32](x, below, above))
		case api.SOpenConfirm, api.SEstablished:
			return keepalive
		}
	}
	b := pick(x, opening(below), opening(above), opening(us.Id), changed(below, func(o *said) { o.caps = "00" }), changed(below, func(o *said) { o.hold = 0 }),
		changed(0, func(o *said) {}), keepalive, gone, news, noOrigin, parting, zeros, message(5, nil), message(1, nil))
	if x.below(4) == 0 {
		return b[:x.below(len(b))]
	}
	return b
}

// step does one thing by chance to both; it tells what both told.
func (m *model) step(x *chance, p *peer.Peer) ([]peer.Step, []peer.Step, bool) {
	dir := x.below(2)
	switch n := x.below(60); {
	case n < 1:
		return p.Stop(), append(m.do(0, api.EvStop), m.do(1, api.EvStop)...), true
	case n < 6:
		return p.Start(), append(m.do(0, api.EvStart), m.do(1, api.EvStart)...), true
	case n < 14:
		return p.Up(dir), m.up(dir), true
	case n < 16:
		return p.Down(dir), m.do(dir, api.EvDown), true
	case n < 17:
		return p.Limit(), m.limit(), true
	case n < 22:
		return p.Tick(), append(m.told(0, m.s[0].Tick()...), m.told(1, m.s[1].Tick()...)...), true
	case n < 40:
		b := coming(x, p.State(dir))
		p.Feed(dir, b)
		m.feed(dir, b)
		return nil, nil, true
	}
	got, ok := p.Read(dir)
	want, wantOk := m.read(dir)
	return got, want, ok == wantOk
}

// P24.4: at most one of both is beyond SOpenSent, whatever befalls.
func TestByChance(t *testing.T) {
	x := chance(88172645)
	met := map[string]int{}
	for range 900 {
		l := us
		l.Hold = pick(&x, 90, 9, 0)
		p, m := peer.New(l, them), modelOf(l, them)
		for n := range 300 {
			got, want, ok := m.step(&x, p)
			if !ok || !slices.EqualFunc(got, want, sameStep) || !m.asAll(p) {
				t.Fatalf("step %d: %q, not %q", n, brief(got), brief(want))
			}
			if p.State(0) >= api.SOpenConfirm && p.State(1) >= api.SOpenConfirm {
				t.Fatalf("step %d: both stay: %d, %d", n, p.State(0), p.State(1))
			}
			for _, s := range got {
				met[fmt.Sprint(s.Dir, s.Out.Trace.Event, s.Out.Trace.From)]++
			}
		}
	}
	for dir := range 2 {
		for from := api.SOpenSent; from <= api.SEstablished; from++ {
			for _, event := range []int{api.EvStop, api.EvUp, api.EvDown, api.EvOpen, api.EvBadHead, api.EvNotice, api.EvKeepalive, api.EvUpdate} {
				if met[fmt.Sprint(dir, event, from)] == 0 {
					t.Error("not met:", dir, event, from)
				}
			}
		}
		if met[fmt.Sprint(dir, api.EvDump, api.SOpenSent)] == 0 || met[fmt.Sprint(dir, api.EvDump, api.SOpenConfirm)] == 0 || met[fmt.Sprint(dir, api.EvLimit, api.SEstablished)] == 0 {
			t.Error("not met:", dir, met)
		}
	}
}
