package frame_test

import (
	"bytes"
	"slices"
	"testing"

	"speculum/api"
	"speculum/frame"
)

// message is what a stream told.
type message struct {
	kind int
	body []byte
}

func sameMessages(a, b []message) bool {
	return slices.EqualFunc(a, b, func(m, n message) bool { return m.kind == n.kind && bytes.Equal(m.body, n.body) })
}

// drain takes all messages that are there.
func drain(s *frame.Stream) []message {
	var out []message
	for {
		kind, body, ok := s.Next()
		if !ok {
			return out
		}
		out = append(out, message{kind, body})
	}
}

// holds asks how a stream is.
func holds(t *testing.T, name string, s *frame.Stream, left int, f api.Fault) {
	t.Helper()
	if s.Left() != left || !same(s.Fault(), f) {
		t.Error(name, s.Left(), s.Fault())
	}
}

// tells asks for its next message; of kind 0: there is none.
func tells(t *testing.T, name string, s *frame.Stream, kind int, body []byte) {
	t.Helper()
	if k, b, ok := s.Next(); k != kind || !bytes.Equal(b, body) || ok != (kind != 0) {
		t.Error(name, k, b, ok)
	}
}

// P7.3

func TestStream(t *testing.T) {
	none := api.Fault{}
	s := frame.New()
	holds(t, "new", s, 0, none)
	tells(t, "new", s, 0, nil)
	s.Feed(nil)
	s.Feed([]byte{})
	holds(t, "fed nothing", s, 0, none)

	s.Feed(whole(30, 2)[:18])
	tells(t, "18 bytes", s, 0, nil)
	s.Feed(whole(30, 2)[18:29])
	tells(t, "29 bytes", s, 0, nil)
	holds(t, "29 bytes", s, 29, none)
	s.Feed(append(whole(30, 2)[29:], whole(19, 4)...))
	holds(t, "two", s, 49, none)
	tells(t, "the first", s, 2, bodyOf(11))
	holds(t, "one left", s, 19, none)
	s.Feed(whole(21, 3)[:20])
	tells(t, "the second", s, 4, nil)
	holds(t, "a part of the third", s, 20, none)
	tells(t, "a part of the third", s, 0, nil)
	s.Feed(whole(21, 3)[20:])
	tells(t, "the third", s, 3, bodyOf(2))
	holds(t, "all taken", s, 0, none)
	tells(t, "all taken", s, 0, nil)
}

func TestStreamFault(t *testing.T) {
	for _, c := range []struct {
		name string
		b    []byte
		want api.Fault
	}{
		{"sync", make([]byte, 19), api.Fault{Code: 1, Sub: 1}},
		{"length", head(18, 4), api.Fault{Code: 1, Sub: 2, Data: []byte{0, 18}}},
		{"least", head(28, 1), api.Fault{Code: 1, Sub: 2, Data: []byte{0, 28}}},
		{"kind", head(50, 7), api.Fault{Code: 1, Sub: 3, Data: []byte{7}}},
	} {
		s := frame.New()
		s.Feed(whole(23, 2))
		s.Feed(c.b[:18])
		tells(t, c.name, s, 2, bodyOf(4))
		tells(t, c.name, s, 0, nil)
		holds(t, c.name+", 18 bytes", s, 18, api.Fault{})
		s.Feed(c.b[18:])
		s.Feed(whole(19, 4))
		tells(t, c.name, s, 0, nil)
		holds(t, c.name, s, 0, c.want)
		// It stays, whatever comes.
		for range 3 {
			s.Feed(whole(19, 4))
			holds(t, c.name+", fed", s, 0, c.want)
			tells(t, c.name+", fed", s, 0, nil)
			s.Feed(make([]byte, 19))
			tells(t, c.name+", fed zeros", s, 0, nil)
			holds(t, c.name+", fed zeros", s, 0, c.want)
		}
	}
}

// Messages ahead of a fault come as if there were none; it is told once Next comes to it.
func TestStreamFaultBehindMessages(t *testing.T) {
	s := frame.New()
	s.Feed(slices.Concat(whole(19, 4), whole(40, 1), head(19, 5), whole(19, 4)))
	holds(t, "fed", s, 97, api.Fault{})
	tells(t, "the first", s, 4, nil)
	tells(t, "the second", s, 1, bodyOf(21))
	holds(t, "ahead of it", s, 38, api.Fault{})
	tells(t, "at it", s, 0, nil)
	holds(t, "at it", s, 0, api.Fault{Code: 1, Sub: 3, Data: []byte{5}})
}

func TestNoStream(t *testing.T) {
	var s *frame.Stream
	s.Feed(whole(19, 4))
	tells(t, "nil", s, 0, nil)
	holds(t, "nil", s, 0, api.Fault{})
	s.Feed(make([]byte, 19))
	tells(t, "nil", s, 0, nil)
	holds(t, "nil", s, 0, api.Fault{})

	// One that no call made is one of New.
	var made frame.Stream
	holds(t, "made", &made, 0, api.Fault{})
	tells(t, "made", &made, 0, nil)
	made.Feed(whole(25, 2))
	holds(t, "made", &made, 25, api.Fault{})
	tells(t, "made", &made, 2, bodyOf(6))
	made.Feed(head(18, 1))
	tells(t, "made", &made, 0, nil)
	holds(t, "made", &made, 0, api.Fault{Code: 1, Sub: 2, Data: []byte{0, 18}})
}

// Rules 4, 5: streams know nothing of one another, nor what becomes of what they told.
func TestStreamsAlone(t *testing.T) {
	b := whole(60, 2)
	one, other := frame.New(), frame.New()
	one.Feed(b[:40])
	other.Feed(b[:40])
	one.Feed(b[40:])
	one.Feed(whole(30, 2))
	other.Feed(bytes.Repeat([]byte{9}, 20))
	_, body, _ := one.Next()
	_ = append(body, make([]byte, 30)...)
	for i := range body {
		body[i] = 200
	}
	tells(t, "one", one, 2, bodyOf(11))
	tells(t, "other", other, 2, append(bodyOf(21), bytes.Repeat([]byte{9}, 20)...))

	one.Feed(head(18, 2))
	tells(t, "one", one, 0, nil)
	one.Fault().Data[0] = 200
	holds(t, "one", one, 0, api.Fault{Code: 1, Sub: 2, Data: []byte{0, 18}})
	holds(t, "other", other, 0, api.Fault{})
}

// P7.4

// said is some messages, and their bytes, one behind the other.
func said(t *testing.T) ([]message, []byte) {
	t.Helper()
	list := []message{{4, nil}, {1, bodyOf(10)}, {4, nil}, {4, nil}, {2, bodyOf(4)}, {3, bytes.Repeat([]byte{255}, 40)}, {2, bodyOf(7)}, {3, bodyOf(2)}, {4, nil}}
	var all []byte
	for _, m := range list {
		b, e := frame.Put(m.kind, m.body)
		if e != api.OK {
			t.Fatal(m, e)
		}
		all = append(all, b...)
	}
	return list, all
}

// inPieces feeds pieces one behind the other, takes what is there behind each, and tells all that was taken.
func inPieces(s *frame.Stream, pieces ...[]byte) []message {
	var out []message
	for _, p := range pieces {
		s.Feed(p)
		out = append(out, drain(s)...)
	}
	return out
}

func TestCutAnywhere(t *testing.T) {
	want, all := said(t)
	for _, c := range []struct {
		name   string
		behind []byte
		left   int
		fault  api.Fault
	}{
		{"nothing more", nil, 0, api.Fault{}},
		{"a part of one", whole(30, 2)[:29], 29, api.Fault{}},
		{"a fault, and more", slices.Concat(head(18, 2), whole(19, 4)), 0, api.Fault{Code: 1, Sub: 2, Data: []byte{0, 18}}},
		{"a byte that is not 255, and more", slices.Concat(bytes.Repeat([]byte{255}, 15), []byte{254, 0, 19, 4}, whole(19, 4)), 0, api.Fault{Code: 1, Sub: 1}},
	} {
		b := slices.Concat(all, c.behind)
		check := func(where []int, got []message, s *frame.Stream) {
			if !sameMessages(got, want) || s.Left() != c.left || !same(s.Fault(), c.fault) {
				t.Fatal(c.name, where, got, s.Left(), s.Fault())
			}
		}
		for i := range b {
			for j := i; j <= len(b); j++ {
				s := frame.New()
				check([]int{i, j}, inPieces(s, b[:i], b[i:j], b[j:]), s)
			}
		}
		for n := 1; n <= len(b); n++ {
			s := frame.New()
			check([]int{n}, inPieces(s, slices.Collect(slices.Chunk(b, n))...), s)
		}
		// Fed in pieces, and taken once all is there.
		s := frame.New()
		for _, p := range slices.Collect(slices.Chunk(b, 7)) {
			s.Feed(p)
		}
		check(nil, drain(s), s)
	}
}

// Messages of all lengths come out as they were, a byte at a time.
func TestLongStream(t *testing.T) {
	s := frame.New()
	for n := 0; n <= 4077; n += 151 {
		for kind := 1; kind <= 3; kind++ {
			body := bodyOf(min(max(n, frame.Least(kind)-19), 4077))
			m, e := frame.Put(kind, body)
			if e != api.OK {
				t.Fatal(kind, n, e)
			}
			for i := range m {
				if k, _, ok := s.Next(); ok || k != 0 || s.Left() != i {
					t.Fatal(kind, n, i, k, s.Left())
				}
				s.Feed(m[i : i+1])
			}
			tells(t, "whole", s, kind, body)
			holds(t, "whole", s, 0, api.Fault{})
		}
	}
}
