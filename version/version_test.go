package version_test

import (
	"maps"
	"math"
	"slices"
	"strings"
	"testing"

	"speculum/version"
)

// odd are numbers of which no store here has a version.
var odd = []int{-1, -2, 100000, math.MaxInt, math.MinInt}

// head tells of a store's head whether it is that one.
func head(s *version.Store[string], k int, x string) bool {
	got, v := s.Head()
	return got == k && v == x
}

// at tells whether a version is live, and is that one.
func at(s *version.Store[string], k int, x string) bool {
	v, ok := s.At(k)
	return ok && v == x
}

// none tells whether a version is not live.
func none(s *version.Store[string], k int) bool {
	v, ok := s.At(k)
	return !ok && v == "" && s.Pins(k) == 0
}

// P10.1

func TestNew(t *testing.T) {
	s := version.New("a")
	if !head(s, 0, "a") || !at(s, 0, "a") || s.Live() != 1 || s.Pins(0) != 0 {
		t.Error(s.Live(), s.Pins(0))
	}
	for _, k := range append(odd, 1) {
		if !none(s, k) || s.Release(k) {
			t.Error(k)
		}
	}
	if s.Release(0) || !at(s, 0, "a") || s.Live() != 1 {
		t.Error("what is not pinned was released")
	}
}

func TestCommit(t *testing.T) {
	s := version.New("a")
	for i, x := range []string{"b", "c", "c", "", "d"} {
		if k := s.Commit(x); k != i+1 || !head(s, k, x) || !at(s, k, x) || s.Live() != 1 || s.Pins(k) != 0 {
			t.Error(x, k, s.Live())
		}
		for k := range i + 1 {
			if !none(s, k) || s.Release(k) {
				t.Error(x, k, "is live still")
			}
		}
		for _, k := range append(odd, i+2) {
			if !none(s, k) || s.Release(k) {
				t.Error(x, k)
			}
		}
	}
}

// Stores do not know of each other.
func TestTwoStores(t *testing.T) {
	s, u := version.New("a"), version.New("x")
	s.Pin()
	s.Commit("b")
	if !head(u, 0, "x") || u.Live() != 1 || u.Pins(0) != 0 || u.Release(0) || !head(s, 1, "b") || !at(s, 0, "a") {
		t.Error("one tells of the other")
	}
}

// P10.2

func TestPin(t *testing.T) {
	s := version.New("a")
	if s.Pin() != 0 || s.Pins(0) != 1 || s.Live() != 1 {
		t.Error(s.Pins(0), s.Live())
	}
	if s.Commit("b") != 1 || !at(s, 0, "a") || !at(s, 1, "b") || !head(s, 1, "b") || s.Live() != 2 || s.Pins(0) != 1 || s.Pins(1) != 0 {
		t.Error(s.Pins(0), s.Pins(1), s.Live())
	}
	if !s.Release(0) || !none(s, 0) || s.Live() != 1 || s.Release(0) {
		t.Error("it did not go")
	}
	if !head(s, 1, "b") || s.Pin() != 1 || s.Pins(1) != 1 {
		t.Error("the head")
	}
}

func TestPinnedMoreThanOnce(t *testing.T) {
	s := version.New("a")
	for n := range 5 {
		if s.Pin() != 0 || s.Pins(0) != n+1 || s.Live() != 1 {
			t.Error(n, s.Pins(0), s.Live())
		}
	}
	s.Commit("b")
	for n := 5; n > 0; n-- {
		if s.Pins(0) != n || !at(s, 0, "a") || s.Live() != 2 || !s.Release(0) {
			t.Error(n, s.Pins(0), s.Live())
		}
	}
	if !none(s, 0) || s.Live() != 1 || s.Release(0) || !head(s, 1, "b") {
		t.Error("it did not go")
	}
}

// The head stays, pinned or not; then it goes at once, if nobody pins it.
func TestReleaseOfTheHead(t *testing.T) {
	s := version.New("a")
	s.Pin()
	s.Pin()
	if !s.Release(0) || !s.Release(0) || s.Release(0) || !at(s, 0, "a") || !head(s, 0, "a") || s.Live() != 1 || s.Pins(0) != 0 {
		t.Error(s.Pins(0), s.Live())
	}
	if s.Pin() != 0 || s.Pins(0) != 1 || !s.Release(0) {
		t.Error("pinned anew")
	}
	if s.Commit("b") != 1 || !none(s, 0) || s.Live() != 1 {
		t.Error("it did not go")
	}
}

func TestReleaseOfOneOfMany(t *testing.T) {
	s := version.New("v0")
	names := []string{"v0", "v1", "v2", "v3", "v4", "v5"}
	for k, x := range names[1:] {
		if s.Pin() != k {
			t.Error(k)
		}
		s.Commit(x)
	}
	if s.Live() != 6 {
		t.Error(s.Live())
	}
	for i, k := range []int{2, 0, 4, 3, 1} {
		if !s.Release(k) || !none(s, k) || s.Live() != 5-i || s.Release(k) {
			t.Error(k, s.Live())
		}
		for j, x := range names {
			if went := slices.Contains([]int{2, 0, 4, 3, 1}[:i+1], j); went && !none(s, j) || !went && !at(s, j, x) {
				t.Error(k, j)
			}
		}
	}
	// A number never comes again.
	if s.Commit("w") != 6 || !none(s, 0) || !none(s, 5) || !head(s, 6, "w") {
		t.Error("6")
	}
}

func TestReleaseOfNone(t *testing.T) {
	s := version.New("a")
	s.Pin()
	s.Commit("b")
	for _, k := range append(odd, 1, 2) {
		if s.Release(k) || s.Pins(k) != 0 {
			t.Error(k)
		}
	}
	if s.Live() != 2 || s.Pins(0) != 1 || !at(s, 0, "a") || !head(s, 1, "b") {
		t.Error("something was done")
	}
}

// Rule 6: nil, and one that no call made.
func TestOfNone(t *testing.T) {
	for name, s := range map[string]*version.Store[string]{"nil": nil, "no call made it": {}} {
		for range 2 {
			if k, x := s.Head(); k != 0 || x != "" || s.Commit("a") != 0 || s.Pin() != 0 || s.Live() != 0 {
				t.Error(name, k, x, s.Live())
			}
			for _, k := range append(odd, 0, 1) {
				if !none(s, k) || s.Release(k) {
					t.Error(name, k)
				}
			}
		}
	}
}

// The zero value is a version as any other one.
func TestZeroValues(t *testing.T) {
	s := version.New[*int](nil)
	s.Pin()
	n := 5
	s.Commit(&n)
	if x, ok := s.At(0); x != nil || !ok || s.Live() != 2 {
		t.Error(x, ok)
	}
	if x, ok := s.At(1); x != &n || !ok {
		t.Error(x, ok)
	}
	if k, x := s.Head(); k != 1 || x != &n {
		t.Error(k, x)
	}
}

// P10.3

// told is what a store has to tell, by its words: all versions that were, and how often each is pinned.
type told struct {
	all  []string
	pins map[int]int
}

// live is how many versions are.
func (m told) live() int {
	n := 0
	for k := range m.all {
		if m.pins[k] > 0 || k == len(m.all)-1 {
			n++
		}
	}
	return n
}

// check holds all that a store tells against that.
func (m told) check(t *testing.T, s *version.Store[string]) {
	t.Helper()
	last := len(m.all) - 1
	if !head(s, last, m.all[last]) || s.Live() != m.live() {
		t.Fatal(last, s.Live(), m.live())
	}
	pinned := 0
	for k, x := range m.all {
		if s.Pins(k) != m.pins[k] {
			t.Fatal(k, s.Pins(k), m.pins[k])
		}
		if is := m.pins[k] > 0 || k == last; is && !at(s, k, x) || !is && !none(s, k) {
			t.Fatal(k, "of", last)
		}
		if s.Pins(k) > 0 {
			pinned++
		}
	}
	if s.Live() > pinned+1 {
		t.Fatal(s.Live(), "are live,", pinned, "pinned")
	}
}

func TestAsTheWordsSay(t *testing.T) {
	x := uint32(2463534242)
	below := func(n int) int {
		x ^= x << 13
		x ^= x >> 17
		x ^= x << 5
		return int(x % uint32(n))
	}
	s, m := version.New("0"), told{[]string{"0"}, map[int]int{}}
	for n := range 3000 {
		switch last := len(m.all) - 1; below(6) {
		case 0:
			m.all = append(m.all, strings.Repeat("x", n%7))
			if s.Commit(m.all[last+1]) != last+1 {
				t.Fatal(n)
			}
		case 1, 2:
			m.pins[last]++
			if s.Pin() != last {
				t.Fatal(n)
			}
		default:
			k := max(0, last-below(8))
			was := m.pins[k] > 0
			if was {
				m.pins[k]--
			}
			if s.Release(k) != was {
				t.Fatal(n, k, was)
			}
		}
		m.check(t, s)
	}
	for _, k := range slices.Sorted(maps.Keys(m.pins)) {
		for s.Release(k) {
			m.pins[k]--
		}
		m.check(t, s)
	}
	if s.Live() != 1 {
		t.Error(s.Live())
	}
}

// Rules 3 and 4: a version is what was handed in, and nothing of it, or of the room behind its end, is changed.
func TestVersionsStayAsTheyWere(t *testing.T) {
	room := []int{1, 2, 3, 4}
	s := version.New(room[:2])
	s.Pin()
	s.Commit(nil)
	s.Pin()
	s.Commit(room[:0])
	s.Pin()
	s.Commit(room[:3])
	for k, want := range [][]int{{1, 2}, nil, {}, {1, 2, 3}} {
		if x, ok := s.At(k); !ok || !slices.Equal(x, want) {
			t.Error(k, x, ok)
		}
	}
	for k := range 3 {
		if !s.Release(k) {
			t.Error(k)
		}
	}
	if k, x := s.Head(); k != 3 || !slices.Equal(x, []int{1, 2, 3}) || !slices.Equal(room, []int{1, 2, 3, 4}) {
		t.Error(k, x, room)
	}
}
