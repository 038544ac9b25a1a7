package session

import (
	"speculum/api"
	"speculum/clock"
	"speculum/frame"
	"speculum/fsm"
	"speculum/notice"
	"speculum/open"
)

// Deeds of fsm's table, a bit each.
const (
	dial = 1 << iota
	hangUp
	sendOpen
	sendKeepalive
	sendNotice
	rise
	fall
	runRetry
	runLong
	runHold
	runKeep
	stopTimes
)

// Times, by their numbers in a clock.
const (
	retryTime = iota
	holdTime
	keepTime
)

// How many ticks times run of which the OPENs say nothing.
const (
	retryTicks = 10
	longTicks  = 240
)

// ends is what befalls a session when a time comes to 0.
var ends = [...]int{retryTime: api.EvRetry, holdTime: api.EvHold, keepTime: api.EvKeep}

// Do does an event.
func (s *Session) Do(event int, f api.Fault) Out {
	if s == nil {
		return Out{}
	}
	from := s.state
	to, deeds := s.next(event)
	asked := func(deed int) bool { return deeds&deed != 0 }
	out := Out{
		Trace: api.Trace{Event: event, From: from, To: to},
		Rise:  asked(rise), Fall: asked(fall), Dial: asked(dial), Hang: asked(hangUp),
	}
	s.state, s.times = to, s.running(asked)
	s.send(&out, asked, f)
	if to == api.SIdle {
		s.course = course{}
	}
	return out
}

// next is the next state, and what is done.
func (s *Session) next(event int) (int, int) {
	switch {
	case event < 0 || event >= api.Events:
		return s.state, 0
	case s.passive && s.state == api.SIdle && event == api.EvStart:
		// It waits for the peer's connection, so nothing is to be tried again.
		return api.SActive, 0
	}
	return fsm.Step(s.state, event)
}

// running is the times behind a step whose deeds are asked for.
func (s *Session) running(asked func(int) bool) clock.Clock {
	c := s.times
	if asked(stopTimes) {
		c = clock.Clock{}
	}
	for _, run := range [...]struct{ deed, which, ticks int }{
		{runRetry, retryTime, retryTicks}, {runLong, holdTime, longTicks}, {runHold, holdTime, s.hold}, {runKeep, keepTime, s.hold / 3},
	} {
		if asked(run.deed) {
			c = c.Set(run.which, run.ticks)
		}
	}
	return c
}

// send tells in out what is sent by deeds that are asked for.
func (s *Session) send(out *Out, asked func(int) bool, f api.Fault) {
	put := func(kind int, body []byte) {
		b, _ := frame.Put(kind, body)
		out.Sent = append(out.Sent, b...)
		out.Trace.Sent = append(out.Trace.Sent, kind)
	}
	if asked(sendOpen) {
		body, _ := open.Put(open.Mine(s.local))
		put(api.MOpen, body)
	}
	if asked(sendKeepalive) {
		put(api.MKeepalive, nil)
	}
	if asked(sendNotice) {
		out.Trace.Fault = fsm.Fault(out.Trace.Event, f)
		// A fault that can't be put is told without a body.
		body, _ := notice.Put(out.Trace.Fault)
		put(api.MNotice, body)
	}
}

// Tick is a tick.
func (s *Session) Tick() []Out {
	if s == nil {
		return nil
	}
	times, ended := s.times.Tick()
	s.times = times
	var out []Out
	for _, which := range ended {
		if s.state == api.SIdle {
			break
		}
		out = append(out, s.Do(ends[which], api.Fault{}))
	}
	return out
}
