package queue_test

import (
	"bytes"
	"math"
	"slices"
	"strings"
	"testing"

	"speculum/api"
	"speculum/queue"
)

// with is a queue in which some bytes wait.
func with(most int, s string) *queue.Queue {
	q := queue.New(most)
	q.Put([]byte(s))
	return q
}

// holds asks whether a queue has these bytes, and room for so many more.
func holds(t *testing.T, q *queue.Queue, s string, room int) {
	t.Helper()
	if string(q.Bytes()) != s || q.Len() != len(s) || q.Room() != room {
		t.Errorf("%q, %d, %d, not %q, %d", q.Bytes(), q.Len(), q.Room(), s, room)
	}
}

// line asks for a line, and whether what is told is that one.
func line(t *testing.T, q *queue.Queue, most int, want string, is, long bool) {
	t.Helper()
	if b, got, gotLong := q.Line(most); string(b) != want || got != is || gotLong != long {
		t.Errorf("Line(%d): %q, %v, %v", most, b, got, gotLong)
	}
}

// P22.1

func TestNew(t *testing.T) {
	for most, want := range map[int]int{
		math.MinInt: 0, -1: 0, 0: 0, 1: 1, 256: 256, api.MaxQueue - 1: api.MaxQueue - 1, api.MaxQueue: api.MaxQueue,
		api.MaxQueue + 1: api.MaxQueue, 1 << 32: api.MaxQueue, math.MaxInt: api.MaxQueue,
	} {
		q := queue.New(most)
		holds(t, q, "", want)
		if n := q.Put(bytes.Repeat([]byte{7}, api.MaxQueue+9)); n != want || q.Len() != want || q.Room() != 0 {
			t.Error(most, n, q.Len(), q.Room())
		}
		if n := q.Put([]byte{8}); n != 0 || bytes.IndexByte(q.Bytes(), 8) >= 0 {
			t.Error(most, n)
		}
	}
}

func TestOfNoRoom(t *testing.T) {
	for _, most := range []int{0, -1, math.MinInt} {
		q := queue.New(most)
		for _, s := range []string{"", "a", "\n", "ab\nc"} {
			if q.Put([]byte(s)) != 0 {
				t.Error(most, s)
			}
			holds(t, q, "", 0)
			line(t, q, 0, "", false, false)
			line(t, q, -1, "", false, false)
		}
		if len(q.Take(1)) != 0 || q.Clear() != 0 {
			t.Error(most)
		}
	}
}

func TestPut(t *testing.T) {
	q := queue.New(6)
	for _, x := range []struct {
		put   string
		n     int
		whole string
	}{
		{"", 0, ""}, {"ab", 2, "ab"}, {"", 0, "ab"}, {"\n", 1, "ab\n"}, {"cde", 3, "ab\ncde"}, {"f", 0, "ab\ncde"}, {"", 0, "ab\ncde"},
	} {
		if n := q.Put([]byte(x.put)); n != x.n {
			t.Error(x, n)
		}
		holds(t, q, x.whole, 6-len(x.whole))
	}
	if q.Put(nil) != 0 {
		t.Error("nil")
	}
}

func TestPutOfMoreThanFits(t *testing.T) {
	for most := range 8 {
		for n := range 12 {
			q := queue.New(most)
			all := "abcdefghijklmno"
			want := min(n, most)
			if got := q.Put([]byte(all[:n])); got != want {
				t.Error(most, n, got)
			}
			holds(t, q, all[:want], most-want)
		}
	}
	q := with(5, "abc")
	if n := q.Put([]byte("defg")); n != 2 {
		t.Error(n)
	}
	holds(t, q, "abcde", 0)
	q.Take(1)
	if n := q.Put([]byte("fg")); n != 1 {
		t.Error(n)
	}
	holds(t, q, "bcdef", 0)
}

func TestTake(t *testing.T) {
	for _, x := range []struct {
		n          int
		take, left string
	}{
		{0, "", "ab\nd"}, {-1, "", "ab\nd"}, {math.MinInt, "", "ab\nd"}, {1, "a", "b\nd"}, {2, "ab", "\nd"}, {3, "ab\n", "d"},
		{4, "ab\nd", ""}, {5, "ab\nd", ""}, {math.MaxInt, "ab\nd", ""},
	} {
		q := with(9, "ab\nd")
		if b := q.Take(x.n); string(b) != x.take {
			t.Errorf("%d: %q", x.n, b)
		}
		holds(t, q, x.left, 9-len(x.left))
	}
	q := queue.New(9)
	for _, n := range []int{-1, 0, 1, math.MaxInt} {
		if len(q.Take(n)) != 0 {
			t.Error(n)
		}
	}
}

func TestClear(t *testing.T) {
	q := with(4, "ab\nd")
	if n := q.Clear(); n != 4 {
		t.Error(n)
	}
	holds(t, q, "", 4)
	if n := q.Clear(); n != 0 {
		t.Error(n)
	}
	q.Put([]byte("xy"))
	holds(t, q, "xy", 2)
}

// Much goes through a queue, however little it has room for.
func TestManyBytes(t *testing.T) {
	q := queue.New(100)
	put, taken := 0, 0
	for n := range 5000 {
		b := make([]byte, n%37)
		for i := range b {
			b[i] = byte(put + i)
		}
		put += q.Put(b)
		for _, c := range q.Take(n % 41) {
			if c != byte(taken) {
				t.Fatal(n, taken, c)
			}
			taken++
		}
		if q.Len() != put-taken || q.Room() != 100-q.Len() {
			t.Fatal(n, q.Len(), q.Room())
		}
	}
	if taken < 10000 {
		t.Error(taken)
	}
}

// P22.2

// The example of the chapter.
func TestLine(t *testing.T) {
	q := with(99, "ab\nc")
	line(t, q, 200, "ab", true, false)
	holds(t, q, "c", 98)
	line(t, q, 200, "", false, false)
	holds(t, q, "c", 98)
	q.Put([]byte("d\n\ne\n"))
	line(t, q, 200, "cd", true, false)
	line(t, q, 200, "", true, false)
	line(t, q, 200, "e", true, false)
	line(t, q, 200, "", false, false)
	holds(t, q, "", 99)
}

func TestLineOfJustMost(t *testing.T) {
	for most := range 6 {
		just := strings.Repeat("x", most)
		q := with(99, just+"\ny")
		line(t, q, most, just, true, false)
		holds(t, q, "y", 98)
		// Without its end it may still be one.
		q = with(99, just)
		line(t, q, most, "", false, false)
		holds(t, q, just, 99-most)
		q.Put([]byte("\n"))
		line(t, q, most, just, true, false)
		holds(t, q, "", 99)
	}
	long := strings.Repeat("x", 5000)
	line(t, with(9999, long+"\n"), math.MaxInt, long, true, false)
	line(t, with(9999, long), math.MaxInt, "", false, false)
}

func TestLineOfOneMore(t *testing.T) {
	for most := range 6 {
		more := strings.Repeat("x", most+1)
		q := with(99, more+"\ny\n")
		line(t, q, most, "", true, true)
		holds(t, q, "y\n", 97)
		// It is told once, and nothing goes behind it.
		q.Put([]byte("z\n"))
		holds(t, q, "y\nz\n", 95)
	}
	// A line's end further on is none with so few bytes ahead of it.
	q := with(99, "abc\nd\n")
	line(t, q, 2, "", true, true)
	line(t, q, 2, "d", true, false)
}

func TestLineOfOneMoreWithoutItsEnd(t *testing.T) {
	for most := range 6 {
		q := with(99, strings.Repeat("x", most+1))
		line(t, q, most, "", true, true)
		holds(t, q, "", 99)
		line(t, q, most, "", false, false)
		for _, s := range []string{"a", "bc", "", strings.Repeat("d", 98), strings.Repeat("d", 99), strings.Repeat("d", 100), strings.Repeat("d", 500)} {
			if n := q.Put([]byte(s)); n != min(len(s), 99) {
				t.Error(most, s, n)
			}
			holds(t, q, "", 99)
			line(t, q, most, "", false, false)
			if len(q.Take(9)) != 0 {
				t.Error(most, s)
			}
		}
		if n := q.Put([]byte("e\n\nf")); n != 4 {
			t.Error(most, n)
		}
		holds(t, q, "\nf", 97)
		line(t, q, most, "", true, false)
		holds(t, q, "f", 98)
	}
}

// What goes is among what came, and needs room as all that comes does.
func TestWhatGoesIsCounted(t *testing.T) {
	for _, x := range []struct {
		put  string
		n    int
		left string
	}{
		{"", 0, ""}, {"x", 1, ""}, {"xxxx", 4, ""}, {"xxxxx", 4, ""}, {"xxxxxxxxxx", 4, ""}, {"\n", 1, ""}, {"xx\n", 3, ""}, {"xxx\n", 4, ""},
		{"xxxx\n", 4, ""}, {"\nab", 3, "ab"}, {"\nabc", 4, "abc"}, {"\nabcd", 4, "abc"}, {"\nabcdef", 4, "abc"}, {"x\nabcd", 4, "ab"},
		{"xx\nab", 4, "a"}, {"xxx\nab", 4, ""}, {"xxxx\nab", 4, ""}, {"xxxxxxxxxx\nabcdefgh\n", 4, ""}, {"\n\n\n\n\n\n", 4, "\n\n\n"},
	} {
		q := with(4, "long")
		line(t, q, 3, "", true, true)
		if n := q.Put([]byte(x.put)); n != x.n {
			t.Errorf("%q: %d", x.put, n)
		}
		holds(t, q, x.left, 4-len(x.left))
	}
}

// What goes takes no room away: in pieces, each of which finds room, all of it goes.
func TestWhatGoesInPieces(t *testing.T) {
	for _, x := range []struct {
		put  string
		n    int
		left string
	}{
		{"xxxxxxxxxx", 10, ""}, {"xxxxxxxxxx\n", 11, ""}, {"xxxxxxxxxx\nab", 13, "ab"}, {"x\nabcd", 6, "abcd"}, {"x\nabcde", 6, "abcd"},
		{"xxxxxxxxxx\nabcdefgh\n", 15, "abcd"}, {"\n\n\n\n\n\n", 5, "\n\n\n\n"},
	} {
		q := with(4, "long")
		line(t, q, 3, "", true, true)
		n := 0
		for i := range len(x.put) {
			n += q.Put([]byte(x.put[i : i+1]))
		}
		if n != x.n {
			t.Errorf("%q in pieces: %d", x.put, n)
		}
		holds(t, q, x.left, 4-len(x.left))
	}
}

// A line's end for which there is no room any more did not come: more goes, up to the next one that comes.
func TestMoreGoesUpToAnEndThatComes(t *testing.T) {
	for _, x := range []struct {
		first, then string
		n           int
		left        string
	}{
		{"xxx\nab", "ab", 2, "ab"}, {"xxxx\nab", "ab", 2, ""}, {"xxxx\nab", "\nab", 3, "ab"}, {"xxxxx\n", "x\nab", 4, "ab"}, {"xxxxx\n", "xxxx\n", 4, ""},
	} {
		q := with(4, "long")
		line(t, q, 3, "", true, true)
		if n := q.Put([]byte(x.first)); n != 4 {
			t.Errorf("%q: %d", x.first, n)
		}
		holds(t, q, "", 4)
		if n := q.Put([]byte(x.then)); n != x.n {
			t.Errorf("%q, %q: %d", x.first, x.then, n)
		}
		holds(t, q, x.left, 4-len(x.left))
	}
}

// However much room there is, no more comes by one Put than Room told ahead of it.
func TestNoMoreGoesThanThereIsRoomFor(t *testing.T) {
	for _, most := range []int{1, 2, 255, api.MaxQueue - 1, api.MaxQueue, math.MaxInt} {
		q := with(most, "x")
		line(t, q, 0, "", true, true)
		room := q.Room()
		for _, n := range []int{room - 1, room, room + 1, 2*room + 1} {
			if came := q.Put(bytes.Repeat([]byte{'x'}, n)); came != min(n, room) {
				t.Error(most, n, came)
			}
			holds(t, q, "", room)
		}
	}
}

func TestClearEndsThatMoreGoes(t *testing.T) {
	q := with(9, "long")
	line(t, q, 3, "", true, true)
	if q.Put([]byte("er")) != 2 || q.Clear() != 0 {
		t.Error("what went was there")
	}
	if n := q.Put([]byte("ab\nc")); n != 4 {
		t.Error(n)
	}
	holds(t, q, "ab\nc", 5)
	line(t, q, 3, "ab", true, false)
	// Clear of a queue in which nothing goes.
	q.Clear()
	q.Put([]byte("d\n"))
	line(t, q, 3, "d", true, false)
}

// A second line that is too long, behind the end of the first one, is told, too.
func TestOneTooLongBehindTheOther(t *testing.T) {
	q := with(9, "long")
	line(t, q, 3, "", true, true)
	q.Put([]byte("er\nabcd"))
	line(t, q, 3, "", true, true)
	line(t, q, 3, "", false, false)
	if n := q.Put([]byte("e\nabcdef\nab\n")); n != 9 {
		t.Error(n)
	}
	holds(t, q, "abcdef\n", 2)
	q.Put([]byte("ab\n"))
	holds(t, q, "abcdef\nab", 0)
	line(t, q, 3, "", true, true)
	line(t, q, 3, "", false, false)
	q.Put([]byte("\n"))
	line(t, q, 3, "ab", true, false)
}

func TestLineOfMostBelowNothing(t *testing.T) {
	for _, most := range []int{0, -1, -200, math.MinInt} {
		q := with(9, "\n\nab\nc")
		line(t, q, most, "", true, false)
		line(t, q, most, "", true, false)
		line(t, q, most, "", true, true)
		holds(t, q, "c", 8)
		line(t, q, most, "", true, true)
		line(t, q, most, "", false, false)
		q.Put([]byte("d\n\n"))
		line(t, q, most, "", true, false)
		holds(t, q, "", 9)
	}
}

// Only the byte 10 ends a line.
func TestOtherBytes(t *testing.T) {
	var l []byte
	for c := range 256 {
		if c != 10 {
			l = append(l, byte(c))
		}
	}
	q := with(300, string(l)+"\n")
	if n := len(l); n != 255 || q.Len() != 256 {
		t.Fatal(n, q.Len())
	}
	line(t, q, 255, string(l), true, false)
	q.Put(l)
	line(t, q, 255, "", false, false)
	line(t, q, 254, "", true, true)
	if n := q.Put(l); n != 255 || q.Len() != 0 {
		t.Error(n, q.Len())
	}
}

// texts are all texts of up to so many of two signs.
func texts(most int) []string {
	l := []string{""}
	for i := 0; len(l[i]) < most; i++ {
		l = append(l, l[i]+"a", l[i]+"\n")
	}
	return l
}

// drain is all lines there are, of which a ! is one that is too long.
func drain(q *queue.Queue, most int) string {
	out := ""
	for b, is, long := q.Line(most); is; b, is, long = q.Line(most) {
		if long {
			out += "!"
		}
		out += string(b) + "|"
	}
	return out
}

// lines is what drain tells of a text, by the words of P22.2, and what is left.
func lines(s string, most int) (string, string) {
	out := ""
	for {
		l, rest, is := strings.Cut(s, "\n")
		switch {
		case len(l) > most:
			out += "!|"
		case is:
			out += l + "|"
		default:
			return out, l
		}
		if !is {
			return out, ""
		}
		s = rest
	}
}

// The same lines come, however a text is cut, and each that is too long is told once.
func TestLinesInPieces(t *testing.T) {
	for _, s := range texts(8) {
		for most := range 4 {
			want, left := lines(s, most)
			for i := range len(s) + 1 {
				for j := i; j <= len(s); j++ {
					q := queue.New(20)
					got := ""
					for _, piece := range []string{s[:i], s[i:j], s[j:]} {
						if q.Put([]byte(piece)) != len(piece) {
							t.Fatalf("%q", s)
						}
						got += drain(q, most)
					}
					if got != want || string(q.Bytes()) != left {
						t.Fatalf("%q, %d, %d, %d: %q, %q", s, most, i, j, got, q.Bytes())
					}
				}
			}
		}
	}
}

// model is a queue by the words of the chapter, byte by byte; came is all that came, gone how many bytes of it are not there any more.
type model struct {
	most int
	came []byte
	gone int
	skip bool
}

func (m *model) there() []byte { return m.came[m.gone:] }

func (m *model) put(b []byte) int {
	n := min(len(b), m.most-len(m.there()))
	for _, c := range b[:n] {
		if m.skip {
			m.gone++
			m.skip = c != '\n'
		}
		m.came = append(m.came, c)
	}
	return n
}

func (m *model) take(n int) string {
	out := ""
	for ; n > 0 && len(m.there()) > 0; n-- {
		out += string(m.there()[:1])
		m.gone++
	}
	return out
}

func (m *model) line(most int) (string, bool, bool) {
	most = max(most, 0)
	for i, c := range m.there() {
		switch {
		case c == '\n' && i <= most:
			l := m.take(i)
			m.take(1)
			return l, true, false
		case c == '\n':
			m.take(i + 1)
			return "", true, true
		}
	}
	if len(m.there()) <= most {
		return "", false, false
	}
	m.gone, m.skip = len(m.came), true
	return "", true, true
}

func (m *model) clear() int {
	n := len(m.there())
	m.gone, m.skip = len(m.came), false
	return n
}

// dice tells numbers below one, by chance, but the same each time.
func dice() func(n int) int {
	x := uint32(2463534242)
	return func(n int) int {
		x ^= x << 13
		x ^= x >> 17
		x ^= x << 5
		return int(x % uint32(n))
	}
}

// step does one thing to both, and tells what each answered.
func step(below func(n int) int, q *queue.Queue, m *model) (got, want []any) {
	switch below(9) {
	case 0, 1, 2:
		b := make([]byte, below(12))
		for i := range b {
			b[i] = "abc\n"[below(4)]
		}
		return []any{q.Put(b)}, []any{m.put(b)}
	case 3, 4:
		n := below(7) - 1
		return []any{string(q.Take(n))}, []any{m.take(n)}
	case 5:
		if below(5) == 0 {
			return []any{q.Clear()}, []any{m.clear()}
		}
	}
	n := below(8) - 1
	b, is, long := q.Line(n)
	text, is2, long2 := m.line(n)
	return []any{string(b), is, long}, []any{text, is2, long2}
}

func TestAsTheWordsSay(t *testing.T) {
	below := dice()
	for most := range 16 {
		q, m := queue.New(most), &model{most: most}
		for n := range 4000 {
			if got, want := step(below, q, m); !slices.Equal(got, want) {
				t.Fatal(most, n, got, want)
			}
			if b := m.there(); !bytes.Equal(q.Bytes(), b) || q.Len() != len(b) || q.Room() != most-len(b) {
				t.Fatal(most, n, q.Bytes(), b)
			}
		}
	}
}

// P22.3

func TestWhatIsTakenIsTheBeginningOfWhatCame(t *testing.T) {
	below := dice()
	for most := range 20 {
		q := queue.New(most)
		var came, taken []byte
		for range 2000 {
			b := make([]byte, below(9))
			for i := range b {
				b[i] = byte(below(256))
			}
			came = append(came, b[:q.Put(b)]...)
			if q.Len() > most || q.Room() < 0 {
				t.Fatal(most, q.Len())
			}
			taken = append(taken, q.Take(below(9))...)
		}
		if !bytes.Equal(came, append(taken, q.Bytes()...)) {
			t.Error(most)
		}
	}
}

// Lines, too, are the beginning of what came, each with its end.
func TestLinesAreTheBeginningOfWhatCame(t *testing.T) {
	text := strings.Repeat("a\nbcd\n\nefghijkl\nm\n", 40)
	for most := 9; most < 40; most++ {
		q := queue.New(most)
		put, taken := 0, ""
		for n := 0; put < len(text) || q.Len() > 0; n++ {
			put += q.Put([]byte(text[put:min(len(text), put+n%7)]))
			if b, is, long := q.Line(8); is && !long {
				taken += string(b) + "\n"
			} else if long {
				t.Fatal(most, n)
			}
			if !strings.HasPrefix(text, taken) || q.Len() > most {
				t.Fatal(most, n)
			}
		}
		if taken != text {
			t.Error(most)
		}
	}
}

// Rule 6: nil, and one that no call made, which has no room.
func TestOfNone(t *testing.T) {
	for name, q := range map[string]*queue.Queue{"nil": nil, "no call made it": {}} {
		for _, n := range []int{math.MinInt, -1, 0, 1, 200, math.MaxInt} {
			if q.Put([]byte("ab\n")) != 0 || q.Put(nil) != 0 || len(q.Take(n)) != 0 || q.Len() != 0 || q.Room() != 0 || len(q.Bytes()) != 0 || q.Clear() != 0 {
				t.Error(name, n)
			}
			if b, is, long := q.Line(n); len(b) != 0 || is || long {
				t.Error(name, n, b, is, long)
			}
		}
	}
}

// Rules 3 to 5: what is handed in is not changed, nor hangs the queue on what becomes of it.
func TestChangesNothing(t *testing.T) {
	room := []byte("ab\nxyz")
	q := queue.New(99)
	q.Put(room[:3])
	q.Put([]byte("cd"))
	if string(room) != "ab\nxyz" {
		t.Errorf("%q", room)
	}
	for i := range room {
		room[i] = '?'
	}
	holds(t, q, "ab\ncd", 94)
	q.Put([]byte{})
	holds(t, q, "ab\ncd", 94)
}

// What was told stays as it was, whatever comes and goes then; and the queue, whatever becomes of what was told.
func TestWhatIsToldIsKept(t *testing.T) {
	q := with(12, "ab\ncdefgh")
	all := q.Bytes()
	l, _, _ := q.Line(5)
	first := q.Take(2)
	rest := q.Bytes()
	for range 30 {
		q.Put([]byte("123456789"))
		q.Take(7)
	}
	q.Clear()
	q.Put([]byte("############"))
	if string(all) != "ab\ncdefgh" || string(l) != "ab" || string(first) != "cd" || string(rest) != "efgh" {
		t.Errorf("%q, %q, %q, %q", all, l, first, rest)
	}
	q = with(12, "ab\ncdefgh")
	l, _, _ = q.Line(5)
	for _, b := range [][]byte{l, q.Take(2), q.Bytes()} {
		b = append(b, "??????"...)
		for i := range b {
			b[i] = '?'
		}
	}
	holds(t, q, "efgh", 8)
}

// Queues do not know of each other.
func TestTwoQueues(t *testing.T) {
	q, r := queue.New(5), queue.New(7)
	q.Put([]byte("abcde"))
	line(t, q, 3, "", true, true)
	r.Put([]byte("x\ny"))
	holds(t, q, "", 5)
	holds(t, r, "x\ny", 4)
	r.Clear()
	if q.Put([]byte("f\ng")) != 3 {
		t.Error("the other one's Clear")
	}
	holds(t, q, "g", 4)
}
