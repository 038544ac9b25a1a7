package peer

import (
	"speculum/api"
	"speculum/open"
)

// do does an event to one of both: nothing, if there is no such one.
func (x *Peer) do(dir, event int, f api.Fault) []Step {
	c := x.at(dir)
	if c == nil {
		return nil
	}
	return c.told(dir, c.Do(event, f))
}

// Start and Stop are done to both.
func (x *Peer) Start() []Step { return x.doBoth(api.EvStart) }

func (x *Peer) Stop() []Step { return x.doBoth(api.EvStop) }

func (x *Peer) doBoth(event int) []Step {
	return append(x.do(dialed, event, api.Fault{}), x.do(passive, event, api.Fault{})...)
}

// Up lets one be connected.
func (x *Peer) Up(dir int) []Step {
	if c := x.at(dir); c != nil {
		c.anew()
	}
	return x.do(dir, api.EvUp, api.Fault{})
}

// Down lets one be connected no more.
func (x *Peer) Down(dir int) []Step { return x.do(dir, api.EvDown, api.Fault{}) }

// Limit tells the one that is established that it told too much.
func (x *Peer) Limit() []Step { return x.do(x.Now(), api.EvLimit, api.Fault{}) }

// Tick is a tick.
func (x *Peer) Tick() []Step {
	var steps []Step
	for _, dir := range [...]int{dialed, passive} {
		if c := x.at(dir); c != nil {
			steps = append(steps, c.told(dir, c.Tick()...)...)
		}
	}
	return steps
}

// Feed brings bytes to one.
func (x *Peer) Feed(dir int, b []byte) {
	if c := x.at(dir); c != nil && c.hears() {
		c.Feed(b)
	}
}

// Read does the next message of one.
func (x *Peer) Read(dir int) ([]Step, bool) {
	c := x.at(dir)
	if c == nil {
		return nil, false
	}
	kind, body, ok := c.Next()
	if ok {
		return x.message(dir, kind, body), true
	}
	if f := c.Fault(); f.Code != 0 {
		return x.do(dir, api.EvBadHead, f), true
	}
	return nil, false
}

// message does a message of one, and ahead of it lets one go, if both can't stay.
func (x *Peer) message(dir, kind int, body []byte) []Step {
	goes := x.goes(dir, kind, body)
	steps := x.do(goes, api.EvDump, api.Fault{})
	if goes == dir {
		return steps
	}
	c := x.at(dir)
	return append(steps, c.told(dir, c.Message(kind, body))...)
}

// goes is which one can't stay beside the other by a message of one; -1, if both can.
func (x *Peer) goes(dir, kind int, body []byte) int {
	if kind != api.MOpen || x.State(dir) != api.SOpenSent {
		return -1
	}
	o, f := open.Read(body)
	if f.Code != 0 || open.Check(o, x.as, x.mine).Code != 0 {
		return -1
	}
	switch x.State(1 - dir) {
	case api.SEstablished:
		return dir
	case api.SOpenConfirm:
		// Both sides hold the same Ids against one another, so they keep the same one.
		if x.mine > o.Id {
			return passive
		}
		return dialed
	}
	return -1
}
