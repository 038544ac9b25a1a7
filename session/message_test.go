package session_test

import (
	"math"
	"slices"
	"testing"

	"speculum/api"
	"speculum/session"
)

// Attributes in digits.
const (
	origin = "400101 00 "
	next   = "400304 0a000001 "
	pref   = "400504 000000c8 "
	// path is 65001 70000 in wide numbers, short 65001 8 in narrow ones; far is 65002 in wide ones.
	path  = "40020a 0202 0000fde9 00011170 "
	short = "400206 0202 fde9 0008 "
	far   = "400206 0201 0000fdea "
)

// ten is 10.0.0.0/8.
var ten = []api.Prefix{{Addr: 10 << 24, Len: 8}}

// updating is the body of an UPDATE, of parts in digits.
func updating(gone, said, news string) []byte {
	n := func(b []byte) []byte { return []byte{byte(len(b) >> 8), byte(len(b))} }
	g, a := hex(gone), hex(said)
	return slices.Concat(n(g), g, n(a), a, hex(news))
}

func seq(as ...uint32) []api.Segment { return []api.Segment{{Kind: api.Seq, AS: as}} }

// refused is what is told of a message at a state that has a fault: a NOTIFICATION, and nothing else.
func refused(event, state int, f api.Fault) session.Out {
	return session.Out{
		Trace: api.Trace{Event: event, From: state, Sent: []int{api.MNotice}, Fault: f},
		Sent:  message(3, slices.Concat([]byte{byte(f.Code), byte(f.Sub)}, f.Data)), Fall: state == api.SEstablished, Hang: true,
	}
}

// P23.2: OPENs

func TestOpen(t *testing.T) {
	for _, x := range []struct {
		name string
		p    api.Peer
		body []byte
		want being
	}{
		{"wide", outer, opening(65001, 30, peerId, true), being{4, true, peerId, 30, [3]int{0, 30, 10}}},
		{"narrow", outer, opening(65001, 30, peerId, false), being{4, false, peerId, 30, [3]int{0, 30, 10}}},
		{"this side's hold", outer, opening(65001, 240, peerId, true), being{4, true, peerId, 90, [3]int{0, 90, 30}}},
		{"no hold", outer, opening(65001, 0, peerId, true), being{4, true, peerId, 0, [3]int{}}},
		{"a hold of 3", outer, opening(65001, 3, peerId, true), being{4, true, peerId, 3, [3]int{0, 3, 1}}},
		{"a hold of 5", outer, opening(65001, 5, peerId, true), being{4, true, peerId, 5, [3]int{0, 5, 1}}},
		{"an Id of 1", outer, opening(65001, 30, 1, true), being{4, true, 1, 30, [3]int{0, 30, 10}}},
		{"the greatest Id", outer, opening(65001, 30, math.MaxUint32, false), being{4, false, math.MaxUint32, 30, [3]int{0, 30, 10}}},
		{"of this side's system", inner, opening(65000, 30, peerId, true), being{4, true, peerId, 30, [3]int{0, 30, 10}}},
		{"a number of four bytes", api.Peer{AS: 70000}, opening(70000, 30, peerId, true), being{4, true, peerId, 30, [3]int{0, 30, 10}}},
		{"other capabilities", outer, hex("04 fde9 001e 0a000001 09 0202 0200 0203 4101 07"), being{4, false, peerId, 30, [3]int{0, 30, 10}}},
		{"the first that is wide counts", outer, hex("04 0001 001e 0a000001 0e 020c 4104 0000fde9 4104 00000001"), being{4, true, peerId, 30, [3]int{0, 30, 10}}},
	} {
		for _, passive := range []bool{false, true} {
			s := setup{local: us, peer: x.p, passive: passive}.later(t, api.SOpenSent, 2)
			told(t, x.name, s.Message(api.MOpen, x.body), session.Out{
				Trace: api.Trace{Event: api.EvOpen, From: api.SOpenSent, To: api.SOpenConfirm, Sent: []int{api.MKeepalive}}, Sent: keepalive,
			})
			is(t, x.name, s, x.want)
		}
	}
}

func TestOpenFaults(t *testing.T) {
	form := api.Fault{Code: 2}
	version := api.Fault{Code: 2, Sub: 1, Data: []byte{0, 4}}
	as, id, param, hold := api.Fault{Code: 2, Sub: 2}, api.Fault{Code: 2, Sub: 3}, api.Fault{Code: 2, Sub: 4}, api.Fault{Code: 2, Sub: 6}
	for _, x := range []struct {
		name string
		body []byte
		want api.Fault
	}{
		// Of Read.
		{"nothing", nil, form},
		{"9 bytes", hex("04 fde9 005a 0a000001"), form},
		{"parameters that are not there", hex("04 fde9 005a 0a000001 02"), form},
		{"one that does not end", hex("04 fde9 005a 0a000001 02 0201"), form},
		{"another kind", hex("04 fde9 005a 0a000001 03 0101 00"), param},
		{"capabilities that don't end", hex("04 fde9 005a 0a000001 04 0202 4104"), form},
		{"a form ahead of a version", hex("03 fde9 005a 0a000001 02"), form},
		// Of Check.
		{"version 3", hex("03 fde9 005a 0a000001 00"), version},
		{"version 5", hex("05 fde9 005a 0a000001 00"), version},
		{"another system", opening(65002, 90, peerId, true), as},
		{"another system, narrow", opening(65000, 90, peerId, false), as},
		{"another one in four bytes", hex("04 fde9 005a 0a000001 08 0206 4104 00010001"), as},
		{"Id 0", opening(65001, 90, 0, true), id},
		{"this side's Id", opening(65001, 90, us.Id, true), id},
		{"hold 1", opening(65001, 1, peerId, true), hold},
		{"hold 2", opening(65001, 2, peerId, false), hold},
		{"version ahead of all", hex("03 0000 0001 00000000 00"), version},
		{"system ahead of Id and hold", opening(65002, 1, 0, true), as},
		{"Id ahead of hold", opening(65001, 1, us.Id, true), id},
	} {
		for _, passive := range []bool{false, true} {
			s := setup{local: us, peer: outer, passive: passive}.at(t, api.SOpenSent)
			told(t, x.name, s.Message(api.MOpen, x.body), refused(api.EvBadOpen, api.SOpenSent, x.want))
			is(t, x.name, s, being{})
		}
	}
}

// Elsewhere nobody looks at what it says.
func TestOpenElsewhere(t *testing.T) {
	for _, x := range setups() {
		for _, state := range []int{api.SIdle, api.SConnect, api.SActive, api.SOpenConfirm, api.SEstablished} {
			for _, body := range [][]byte{x.opening(), nil, hex("03"), opening(x.peer.AS, 6, 5, !x.wide), opening(1, 1, 0, true)} {
				s := x.later(t, state, 1)
				be, want := x.after(of(s), api.EvOpen, api.Fault{})
				told(t, x, s.Message(api.MOpen, body), want)
				is(t, x, s, be)
			}
		}
	}
	s := usual(90).at(t, api.SEstablished)
	told(t, "established", s.Message(api.MOpen, opening(65001, 90, peerId, true)), refused(api.EvOpen, api.SEstablished, api.Fault{Code: 5}))
	s = usual(90).at(t, api.SIdle)
	told(t, "idle", s.Message(api.MOpen, opening(65001, 90, peerId, true)), session.Out{Trace: api.Trace{Event: api.EvOpen}})
	is(t, "idle", s, being{})
}

// P23.2: UPDATEs

func TestUpdate(t *testing.T) {
	attrs := func(path []api.Segment, pref int) api.Attrs {
		return api.Attrs{Path: path, Next: 0x0a000001, Med: -1, Pref: pref}
	}
	for _, x := range []struct {
		name string
		p    api.Peer
		wide bool
		body []byte
		want api.Update
	}{
		{"nothing", outer, true, updating("", "", ""), api.Update{}},
		{"nothing, inner, narrow", inner, false, updating("", "", ""), api.Update{}},
		{"Gone", outer, true, updating("080a", "", ""), api.Update{Gone: ten}},
		{"News", outer, true, updating("", origin+path+next, "080a"), api.Update{News: ten, Attrs: attrs(seq(65001, 70000), -1)}},
		{"both", outer, true, updating("080a", origin+path+next, "080a"), api.Update{Gone: ten, News: ten, Attrs: attrs(seq(65001, 70000), -1)}},
		{"narrow", outer, false, updating("", origin+short+next, "080a"), api.Update{News: ten, Attrs: attrs(seq(65001, 8), -1)}},
		{"inner", inner, true, updating("", origin+path+next+pref, "080a"), api.Update{News: ten, Attrs: attrs(seq(65001, 70000), 200)}},
		{"inner, narrow", inner, false, updating("", origin+short+next+pref, "080a"), api.Update{News: ten, Attrs: attrs(seq(65001, 8), 200)}},
		// A Pref of another system is not told; who is near is not asked within one.
		{"a Pref of another system", outer, true, updating("", origin+path+next+pref, "080a"), api.Update{News: ten, Attrs: attrs(seq(65001, 70000), -1)}},
		{"from afar, inner", inner, true, updating("", origin+far+next+pref, "080a"), api.Update{News: ten, Attrs: attrs(seq(65002), 200)}},
		{"of a peer whose number is 0", api.Peer{}, true, updating("", origin+far+next, "080a"), api.Update{News: ten, Attrs: attrs(seq(65002), -1)}},
		{"attributes without News", outer, true, updating("080a", origin+path+next, ""), api.Update{Gone: ten}},
	} {
		for _, passive := range []bool{false, true} {
			s := setup{local: us, peer: x.p, passive: passive, hold: 30, wide: x.wide}.later(t, api.SEstablished, 4)
			told(t, x.name, s.Message(api.MUpdate, x.body), session.Out{
				Trace: api.Trace{Event: api.EvUpdate, From: api.SEstablished, To: api.SEstablished}, Update: x.want, New: true,
			})
			is(t, x.name, s, being{api.SEstablished, x.wide, peerId, 30, [3]int{0, 30, 6}})
		}
	}
}

func TestUpdateFaults(t *testing.T) {
	fault := func(sub int, data string) api.Fault { return api.Fault{Code: 3, Sub: sub, Data: hex(data)} }
	for _, x := range []struct {
		name string
		p    api.Peer
		wide bool
		body []byte
		want api.Fault
	}{
		{"nothing at all", outer, true, nil, fault(1, "")},
		{"Gone that do not end", outer, true, hex("0003 080a 0000"), fault(1, "")},
		{"Gone that are none", outer, true, updating("21", "", ""), fault(10, "")},
		{"News that are none", outer, true, updating("", origin+path+next, "0a0a"), fault(10, "")},
		{"no origin", outer, true, updating("", path+next, "080a"), fault(3, "01")},
		{"no path", outer, true, updating("", origin+next, "080a"), fault(3, "02")},
		{"no next one", outer, true, updating("", origin+path, "080a"), fault(3, "03")},
		{"no Pref, inner", inner, true, updating("", origin+path+next, "080a"), fault(3, "05")},
		{"an origin that is none", outer, true, updating("", "400101 03", "080a"), fault(6, "40010103")},
		{"flags", outer, true, updating("", "c00101 00", ""), fault(4, "c0010100")},
		{"another one is near", outer, true, updating("", origin+far+next, "080a"), fault(11, "")},
		{"another one is near, with a Pref", outer, true, updating("", origin+far+next+pref, "080a"), fault(11, "")},
		// How wide numbers are the OPENs have said.
		{"narrow to a wide one", outer, true, updating("", origin+short+next, "080a"), fault(11, "")},
		{"wide to a narrow one", outer, false, updating("", origin+path+next, "080a"), fault(11, "")},
	} {
		s := setup{local: us, peer: x.p, hold: 30, wide: x.wide}.at(t, api.SEstablished)
		told(t, x.name, s.Message(api.MUpdate, x.body), refused(api.EvBadUpdate, api.SEstablished, x.want))
		is(t, x.name, s, being{})
	}
}

// An attribute that is too long to be told goes without a body; the Trace tells it.
func TestFaultThatFindsNoRoom(t *testing.T) {
	for _, x := range []struct {
		size int
		fits bool
	}{{4071, true}, {4072, false}, {60000, false}} {
		// Of a kind that is not known, and must be.
		attr := slices.Concat([]byte{0x50, 99, byte(x.size >> 8), byte(x.size)}, make([]byte, x.size))
		body := slices.Concat([]byte{0, 0, byte(len(attr) >> 8), byte(len(attr))}, attr)
		want := refused(api.EvBadUpdate, api.SEstablished, api.Fault{Code: 3, Sub: 2, Data: attr})
		if !x.fits {
			want.Sent = message(3, nil)
		}
		s := usual(90).at(t, api.SEstablished)
		told(t, x.size, s.Message(api.MUpdate, body), want)
	}
}

// Elsewhere nobody looks at what it says, and nothing is told of it.
func TestUpdateElsewhere(t *testing.T) {
	for _, x := range setups() {
		for state := api.SIdle; state < api.SEstablished; state++ {
			for _, body := range [][]byte{updating("080a", "", ""), nil, hex("ffff"), updating("", origin+path+next+pref, "080a")} {
				s := x.later(t, state, 1)
				be, want := x.after(of(s), api.EvUpdate, api.Fault{})
				told(t, x, s.Message(api.MUpdate, body), want)
				is(t, x, s, be)
			}
		}
	}
	s := usual(90).at(t, api.SOpenConfirm)
	told(t, "ahead of its rise", s.Message(api.MUpdate, updating("080a", "", "")), refused(api.EvUpdate, api.SOpenConfirm, api.Fault{Code: 5}))
}

// P23.2: others

// Of these what stands in the body is of no matter.
func TestNoticeAndKeepalive(t *testing.T) {
	for _, x := range setups() {
		for state := range 6 {
			for kind, event := range map[int]int{api.MNotice: api.EvNotice, api.MKeepalive: api.EvKeepalive} {
				for _, body := range [][]byte{nil, {6, 2}, {3}, slices.Repeat([]byte{255}, 5000)} {
					s := x.later(t, state, 1)
					be, want := x.after(of(s), event, api.Fault{})
					told(t, x, s.Message(kind, body), want)
					is(t, x, s, be)
				}
			}
		}
	}
	s := usual(90).at(t, api.SEstablished)
	told(t, "a NOTIFICATION", s.Message(api.MNotice, []byte{6, 2}), session.Out{Trace: api.Trace{Event: api.EvNotice, From: api.SEstablished}, Fall: true, Hang: true})
	s = usual(90).at(t, api.SOpenSent)
	told(t, "a KEEPALIVE", s.Message(api.MKeepalive, nil), refused(api.EvKeepalive, api.SOpenSent, api.Fault{Code: 5}))
}

func TestKindsThatAreNone(t *testing.T) {
	for _, x := range setups() {
		for state := range 6 {
			for _, kind := range []int{0, 5, -1, -4, 6, 255, 256, 257, 1 << 32, math.MaxInt, math.MinInt} {
				s := x.later(t, state, 1)
				be, want := x.after(of(s), api.EvBadHead, api.Fault{Code: 1, Sub: 3})
				told(t, x, s.Message(kind, x.opening()), want)
				is(t, x, s, be)
			}
		}
	}
	s := usual(90).at(t, api.SOpenConfirm)
	told(t, "at OpenConfirm", s.Message(5, nil), refused(api.EvBadHead, api.SOpenConfirm, api.Fault{Code: 1, Sub: 3}))
}
