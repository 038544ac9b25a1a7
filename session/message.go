package session

import (
	"speculum/api"
	"speculum/open"
	"speculum/update"
)

// The fault of a message whose kind is none.
const (
	badHead = 1
	badKind = 3
)

// Message does a message.
func (s *Session) Message(kind int, body []byte) Out {
	switch kind {
	case api.MOpen:
		return s.opened(body)
	case api.MUpdate:
		return s.updated(body)
	case api.MNotice:
		return s.Do(api.EvNotice, api.Fault{})
	case api.MKeepalive:
		return s.Do(api.EvKeepalive, api.Fault{})
	}
	return s.Do(api.EvBadHead, api.Fault{Code: badHead, Sub: badKind})
}

// opened does an OPEN, which is looked at where one is waited for alone.
func (s *Session) opened(body []byte) Out {
	if s.State() != api.SOpenSent {
		return s.Do(api.EvOpen, api.Fault{})
	}
	o, f := open.Read(body)
	if f.Code == 0 {
		f = open.Check(o, s.as, s.local.Id)
	}
	if f.Code != 0 {
		return s.Do(api.EvBadOpen, f)
	}
	s.id, s.hold = o.Id, open.Hold(o.Hold, open.Mine(s.local).Hold)
	_, s.wide = open.Wide(o)
	return s.Do(api.EvOpen, api.Fault{})
}

// updated does an UPDATE, which is looked at where one may come alone.
func (s *Session) updated(body []byte) Out {
	if s.State() != api.SEstablished {
		return s.Do(api.EvUpdate, api.Fault{})
	}
	u, f := update.Read(body, s.wide, s.inner, s.as)
	if f.Code != 0 {
		return s.Do(api.EvBadUpdate, f)
	}
	out := s.Do(api.EvUpdate, api.Fault{})
	out.Update, out.New = u, true
	return out
}
