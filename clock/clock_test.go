package clock_test

import (
	"math"
	"slices"
	"testing"

	"speculum/clock"
)

// The times, by their numbers.
const (
	retry = 0
	hold  = 1
	keep  = 2
)

// odd are numbers of which there is no time.
var odd = []int{-1, 3, -2, 4, 1 << 32, -1 << 32, math.MaxInt, math.MinInt}

// edges are how many ticks a time may have left, and how many may be asked for.
var edges = []int{math.MinInt, math.MinInt + 1, -7, -1, 0, 1, 2, 3, 10, 240, math.MaxInt - 1, math.MaxInt}

func left(r, h, k int) clock.Clock { return clock.Clock{Left: [3]int{r, h, k}} }

// all are clocks of some numbers at all three places.
func all(l []int) []clock.Clock {
	var out []clock.Clock
	for _, r := range l {
		for _, h := range l {
			for _, k := range l {
				out = append(out, left(r, h, k))
			}
		}
	}
	return out
}

// P20.1

func TestAtFirstNothingRuns(t *testing.T) {
	var c clock.Clock
	for which := range 3 {
		if c.Runs(which) {
			t.Error(which)
		}
	}
	if c.First() != 0 {
		t.Error(c.First())
	}
}

func TestSet(t *testing.T) {
	for _, x := range []struct {
		which, n int
		want     clock.Clock
	}{
		{retry, 10, left(10, 2, 3)}, {hold, 240, left(1, 240, 3)}, {keep, 30, left(1, 2, 30)},
		{retry, 1, left(1, 2, 3)}, {hold, 0, left(1, 0, 3)}, {keep, 0, left(1, 2, 0)},
		{retry, -1, left(0, 2, 3)}, {hold, -240, left(1, 0, 3)}, {keep, math.MinInt, left(1, 2, 0)},
		{retry, math.MaxInt, left(math.MaxInt, 2, 3)}, {keep, math.MaxInt, left(1, 2, math.MaxInt)},
	} {
		if got := left(1, 2, 3).Set(x.which, x.n); got != x.want {
			t.Error(x.which, x.n, got)
		}
	}
}

func TestSetOfEach(t *testing.T) {
	for _, c := range all(edges) {
		for which := range 3 {
			for _, n := range edges {
				want := c
				want.Left[which] = n
				if n < 0 {
					want.Left[which] = 0
				}
				if got := c.Set(which, n); got != want {
					t.Fatal(c, which, n, got)
				}
			}
		}
	}
}

func TestOfTimesThatThereAreNot(t *testing.T) {
	for _, c := range []clock.Clock{left(0, 0, 0), left(1, 2, 3), left(-1, math.MaxInt, math.MinInt)} {
		for _, which := range odd {
			for _, n := range edges {
				if got := c.Set(which, n); got != c {
					t.Error(c, which, n, got)
				}
			}
			if c.Runs(which) {
				t.Error(c, which)
			}
		}
	}
}

func TestRuns(t *testing.T) {
	for _, c := range all(edges) {
		for which, n := range c.Left {
			if c.Runs(which) != (n > 0) {
				t.Fatal(c, which)
			}
		}
	}
	if c := left(0, 0, 0).Set(hold, 5); c.Runs(retry) || !c.Runs(hold) || c.Runs(keep) || c.Set(hold, -5).Runs(hold) {
		t.Error(c)
	}
}

// P20.2

func TestTick(t *testing.T) {
	for _, x := range []struct {
		c, want clock.Clock
		ended   []int
	}{
		{left(0, 0, 0), left(0, 0, 0), nil},
		{left(10, 240, 80), left(9, 239, 79), nil},
		{left(2, 2, 2), left(1, 1, 1), nil},
		{left(1, 2, 3), left(0, 1, 2), []int{retry}},
		{left(3, 1, 2), left(2, 0, 1), []int{hold}},
		{left(0, 3, 1), left(0, 2, 0), []int{keep}},
		{left(1, 1, 5), left(0, 0, 4), []int{retry, hold}},
		{left(1, 5, 1), left(0, 4, 0), []int{retry, keep}},
		{left(0, 1, 1), left(0, 0, 0), []int{hold, keep}},
		{left(1, 1, 1), left(0, 0, 0), []int{retry, hold, keep}},
		{left(-1, 1, 0), left(-1, 0, 0), []int{hold}},
		{left(math.MinInt, -5, math.MaxInt), left(math.MinInt, -5, math.MaxInt-1), nil},
	} {
		if c, ended := x.c.Tick(); c != x.want || !slices.Equal(ended, x.ended) {
			t.Error(x.c, c, ended)
		}
	}
}

// The example of the chapter.
func TestHoldComesToNothing(t *testing.T) {
	c, ended := clock.Clock{}.Set(hold, 2).Tick()
	if c != left(0, 1, 0) || len(ended) != 0 {
		t.Error(c, ended)
	}
	c, ended = c.Tick()
	if c != left(0, 0, 0) || !slices.Equal(ended, []int{hold}) || c.Runs(hold) {
		t.Error(c, ended)
	}
	// It came to 0 once.
	if c, ended = c.Tick(); c != left(0, 0, 0) || len(ended) != 0 {
		t.Error(c, ended)
	}
}

func TestFirst(t *testing.T) {
	for _, x := range []struct {
		c    clock.Clock
		want int
	}{
		{left(0, 0, 0), 0}, {left(-1, -2, -3), 0}, {left(math.MinInt, 0, math.MinInt), 0},
		{left(10, 240, 80), 10}, {left(240, 80, 10), 10}, {left(80, 10, 240), 10},
		{left(0, 7, 0), 7}, {left(-1, 0, 9), 9}, {left(5, -9, 0), 5}, {left(4, 4, 4), 4},
		{left(1, math.MaxInt, 0), 1}, {left(0, math.MaxInt, 0), math.MaxInt}, {left(math.MaxInt, math.MaxInt-1, math.MaxInt), math.MaxInt - 1},
	} {
		if got := x.c.First(); got != x.want {
			t.Error(x.c, got)
		}
	}
}

func TestSkip(t *testing.T) {
	for _, x := range []struct {
		c     clock.Clock
		n     int
		want  clock.Clock
		ended []int
		ticks int
	}{
		{left(10, 240, 80), 0, left(10, 240, 80), nil, 0},
		{left(10, 240, 80), -1, left(10, 240, 80), nil, 0},
		{left(1, 1, 1), math.MinInt, left(1, 1, 1), nil, 0},
		{left(10, 240, 80), 1, left(9, 239, 79), nil, 1},
		{left(10, 240, 80), 9, left(1, 231, 71), nil, 9},
		{left(10, 240, 80), 10, left(0, 230, 70), []int{retry}, 10},
		{left(10, 240, 80), 11, left(0, 230, 70), []int{retry}, 10},
		{left(10, 240, 80), math.MaxInt, left(0, 230, 70), []int{retry}, 10},
		{left(0, 240, 80), 1000, left(0, 160, 0), []int{keep}, 80},
		{left(-3, 5, 5), 7, left(-3, 0, 0), []int{hold, keep}, 5},
		{left(5, 6, 5), 5, left(0, 1, 0), []int{retry, keep}, 5},
		{left(4, 4, 4), 4, left(0, 0, 0), []int{retry, hold, keep}, 4},
		{left(4, 4, 4), 3, left(1, 1, 1), nil, 3},
		{left(0, 0, 0), 0, left(0, 0, 0), nil, 0},
		{left(0, 0, 0), -5, left(0, 0, 0), nil, 0},
		{left(0, 0, 0), 12, left(0, 0, 0), nil, 12},
		{left(0, -1, math.MinInt), math.MaxInt, left(0, -1, math.MinInt), nil, math.MaxInt},
		{left(0, math.MaxInt, 0), math.MaxInt - 1, left(0, 1, 0), nil, math.MaxInt - 1},
		{left(math.MinInt, math.MaxInt, math.MaxInt), math.MaxInt, left(math.MinInt, 0, 0), []int{hold, keep}, math.MaxInt},
	} {
		if c, ended, ticks := x.c.Skip(x.n); c != x.want || !slices.Equal(ended, x.ended) || ticks != x.ticks {
			t.Error(x.c, x.n, c, ended, ticks)
		}
	}
}

// P20.3

// ticked is Skip by its words, a tick behind the other.
func ticked(c clock.Clock, n int) (clock.Clock, []int, int) {
	var ended []int
	ticks := 0
	for ; ticks < n && len(ended) == 0; ticks++ {
		c, ended = c.Tick()
	}
	return c, ended, ticks
}

func TestSkipIsTickSoOften(t *testing.T) {
	for _, c := range all([]int{math.MinInt, -1, 0, 1, 2, 3, 5, 8}) {
		for n := -2; n < 12; n++ {
			d, ended, ticks := c.Skip(n)
			want, wantEnded, wantTicks := ticked(c, n)
			if d != want || !slices.Equal(ended, wantEnded) || ticks != wantTicks {
				t.Fatal(c, n, d, ended, ticks)
			}
		}
		if _, ended, ticks := c.Skip(math.MaxInt); c.First() > 0 && (ticks != c.First() || len(ended) == 0) {
			t.Fatal(c, ended, ticks)
		}
	}
}

// Skips in whatever pieces tell the same: which times come to 0, and when.
func TestSkipsInPieces(t *testing.T) {
	when := func(c clock.Clock, piece int) [][2]int {
		var out [][2]int
		for now := 0; now < 30; {
			d, ended, ticks := c.Skip(min(piece, 30-now))
			c, now = d, now+ticks
			for _, which := range ended {
				out = append(out, [2]int{now, which})
			}
		}
		return out
	}
	c := left(12, 7, 12)
	for piece := 1; piece <= 30; piece++ {
		if got := when(c, piece); !slices.Equal(got, [][2]int{{7, hold}, {12, retry}, {12, keep}}) {
			t.Error(piece, got)
		}
	}
}

// Rules 4 and 5: a clock stays as it was, whatever is made of it, and tells the same again.
func TestStaysAsItWas(t *testing.T) {
	for _, c := range all([]int{-1, 0, 1, 2, math.MaxInt}) {
		was := c
		_, first := c.Tick()
		_, again := c.Tick()
		c.Set(hold, 9)
		d, ended, ticks := c.Skip(5)
		e, ended2, ticks2 := c.Skip(5)
		if c != was || d != e || ticks != ticks2 || !slices.Equal(first, again) || !slices.Equal(ended, ended2) {
			t.Fatal(was, c)
		}
	}
	_, one := left(1, 1, 0).Tick()
	_, other := left(0, 1, 1).Tick()
	if !slices.Equal(one, []int{retry, hold}) || !slices.Equal(other, []int{hold, keep}) {
		t.Error(one, other)
	}
}
