package filter_test

import (
	"math"
	"slices"
	"strconv"
	"testing"

	"speculum/api"
	"speculum/filter"
)

// P12.1

func TestComm(t *testing.T) {
	for _, c := range []struct {
		c    uint32
		want string
	}{
		{0xFFFFFF01, "no-export"}, {0xFFFFFF02, "no-advertise"}, {0xFFFFFF03, "local-as"},
		// Those beside them have no name.
		{0xFFFFFF00, "65535:65280"}, {0xFFFFFF04, "65535:65284"}, {0xFFFFFE01, "65535:65025"}, {0x0000FF01, "0:65281"}, {0xFF01, "0:65281"}, {0xFEFFFF01, "65279:65281"},
		{0, "0:0"}, {1, "0:1"}, {65535, "0:65535"}, {65536, "1:0"}, {math.MaxUint32, "65535:65535"}, {65001<<16 | 7, "65001:7"}, {1<<31 - 1, "32767:65535"}, {1 << 31, "32768:0"}, {10<<16 | 100, "10:100"},
	} {
		if s := filter.Comm(c.c); s != c.want {
			t.Errorf("%x: %q", c.c, s)
		}
		if got, ok := filter.ParseComm(c.want); !ok || got != c.c {
			t.Errorf("%q: %x, %v", c.want, got, ok)
		}
	}
}

func TestParseCommRefuses(t *testing.T) {
	for _, s := range []string{
		// What has a name is written by it alone.
		"65535:65281", "65535:65282", "65535:65283",
		"", ":", "::", "1", "1:", ":1", "1:2:", ":1:2", "1:2:3", "1::2", "1.2", "1-2", "1;2", "1 2", "12",
		"65536:0", "0:65536", "65536:65536", "0:65537", "65537:0", "0:131072", "4294967295:0", "0:4294967295", "0:4294967296", "4294967296:0", "0:18446744073709551616", "4294967297:1",
		"01:2", "1:02", "00:0", "0:00", "-1:2", "1:-2", "+1:2", "1:+2", " 1:2", "1:2 ", "1 :2", "1: 2", "1:2\n", "\t1:2", "1:2\x00",
		"a:1", "1:a", "0x1:2", "1:0x2", "1e1:2", "١:2", "1：2", "1:2\xff", "\xff1:2", "1\xff:2", "1:\xff",
		"no-export ", " no-export", "No-export", "no-Export", "NO-EXPORT", "no_export", "no export", "noexport", "no-exports", "no-expor", "o-export", "no-export:0", "no-export:1", "0:no-export", "no-export no-export", "no–export",
		"no-advertise\n", "no-advertis", "no-advertised", "advertise", "local-as:", "local-AS", "localas", "local", "local-a", "as", "internet", "no-peer", "no-export-subconfed", "none",
	} {
		if c, ok := filter.ParseComm(s); ok || c != 0 {
			t.Errorf("%q: %x, %v", s, c, ok)
		}
	}
}

// P12.4, of communities: what is written is read, and nothing else is written so.
func TestCommIsRead(t *testing.T) {
	from := make(map[string]uint32)
	look := func(c uint32) {
		s := filter.Comm(c)
		if got, ok := filter.ParseComm(s); !ok || got != c {
			t.Fatalf("%x, %q: %x, %v", c, s, got, ok)
		}
		if other, was := from[s]; was && other != c {
			t.Fatalf("%x and %x are both %q", c, other, s)
		}
		from[s] = c
		upper, lower := strconv.Itoa(int(c>>16)), strconv.Itoa(int(c&0xffff))
		if named := c >= 0xFFFFFF01 && c <= 0xFFFFFF03; !named && s != upper+":"+lower {
			t.Fatalf("%x: %q", c, s)
		}
	}
	for n := range uint32(1 << 10) {
		look(n)
		look(n << 16)
		look(n<<22 | n)
		look(math.MaxUint32 - n)
	}
}

func TestAll(t *testing.T) {
	for _, c := range []struct {
		have, want []uint32
		ok         bool
	}{
		{nil, nil, true}, {[]uint32{1}, nil, true}, {[]uint32{}, []uint32{}, true}, {nil, []uint32{}, true},
		{nil, []uint32{1}, false}, {nil, []uint32{0}, false}, {[]uint32{}, []uint32{0}, false},
		{[]uint32{1}, []uint32{1}, true}, {[]uint32{1}, []uint32{2}, false}, {[]uint32{0}, []uint32{0}, true},
		{[]uint32{1, 2, 3}, []uint32{3, 1}, true}, {[]uint32{3, 1}, []uint32{1, 2, 3}, false},
		{[]uint32{1, 2, 3}, []uint32{1, 4}, false}, {[]uint32{1, 2, 3}, []uint32{4, 1}, false}, {[]uint32{1, 2, 3}, []uint32{3, 2, 1}, true},
		// One that is wanted more than once need be there once only.
		{[]uint32{1}, []uint32{1, 1, 1}, true}, {[]uint32{1, 1}, []uint32{1}, true}, {[]uint32{1, 1}, []uint32{1, 2}, false},
		{[]uint32{0xFFFFFF01, 7}, []uint32{0xFFFFFF01}, true}, {[]uint32{0xFFFFFF02}, []uint32{0xFFFFFF01}, false},
	} {
		if ok := filter.All(c.have, c.want); ok != c.ok {
			t.Error(c.have, c.want, ok)
		}
	}
	// A list may be longer than attributes may have.
	long := numbers(200)
	if !filter.All(long, long) || !filter.All(long, []uint32{200}) || filter.All(long, []uint32{200, 201}) || filter.All(long[:199], long) {
		t.Error("a long list")
	}
}

// numbers is the numbers from 1 on.
func numbers(n int) []uint32 {
	var out []uint32
	for i := range n {
		out = append(out, uint32(i+1))
	}
	return out
}

func TestAdd(t *testing.T) {
	for _, c := range []struct {
		l    []uint32
		c    uint32
		want []uint32
	}{
		{nil, 7, []uint32{7}}, {[]uint32{}, 0, []uint32{0}}, {[]uint32{9}, 7, []uint32{9, 7}}, {[]uint32{1, 2}, 0, []uint32{1, 2, 0}},
		{[]uint32{7}, 7, []uint32{7}}, {[]uint32{7, 8, 9}, 8, []uint32{7, 8, 9}}, {[]uint32{0}, 0, []uint32{0}},
		// What stands there more than once, or in no order, stays so.
		{[]uint32{9, 9, 1}, 9, []uint32{9, 9, 1}}, {[]uint32{9, 9, 1}, 5, []uint32{9, 9, 1, 5}},
		{numbers(30), 99, append(numbers(30), 99)}, {numbers(31), 99, append(numbers(31), 99)}, {numbers(32), 99, numbers(32)}, {numbers(33), 99, numbers(33)}, {numbers(100), 999, numbers(100)},
		{numbers(31), 31, numbers(31)}, {numbers(32), 32, numbers(32)}, {numbers(40), 1, numbers(40)},
	} {
		if l := filter.Add(c.l, c.c); !slices.Equal(l, c.want) {
			t.Error(c.l, c.c, l)
		}
	}
	if api.MaxComms != 32 {
		t.Error(api.MaxComms)
	}
}

func TestAddUpToTheLimit(t *testing.T) {
	var l []uint32
	for _, c := range numbers(50) {
		l = filter.Add(l, c)
		l = filter.Add(l, c)
	}
	if !slices.Equal(l, numbers(32)) {
		t.Error(l)
	}
	l = filter.Add(filter.Drop(l, 5), 77)
	if len(l) != 32 || l[31] != 77 || slices.Contains(l, 5) {
		t.Error(l)
	}
}

func TestDrop(t *testing.T) {
	for _, c := range []struct {
		l    []uint32
		c    uint32
		want []uint32
	}{
		{nil, 7, nil}, {[]uint32{}, 0, nil}, {[]uint32{7}, 7, nil}, {[]uint32{7}, 8, []uint32{7}}, {[]uint32{0}, 0, nil},
		{[]uint32{1, 2, 3}, 1, []uint32{2, 3}}, {[]uint32{1, 2, 3}, 2, []uint32{1, 3}}, {[]uint32{1, 2, 3}, 3, []uint32{1, 2}}, {[]uint32{3, 1, 2}, 4, []uint32{3, 1, 2}},
		// Each one of it goes.
		{[]uint32{7, 7}, 7, nil}, {[]uint32{7, 1, 7, 7, 2, 7}, 7, []uint32{1, 2}}, {[]uint32{1, 1, 7}, 7, []uint32{1, 1}},
		{numbers(32), 32, numbers(31)}, {numbers(40), 40, numbers(39)}, {numbers(40), 41, numbers(40)},
	} {
		if l := filter.Drop(c.l, c.c); !slices.Equal(l, c.want) {
			t.Error(c.l, c.c, l)
		}
	}
}

// Rule 4: neither lists nor the room behind their ends are changed, and what is answered stays as it is.
func TestListsAreLeft(t *testing.T) {
	whole := []uint32{1, 2, 3, 4, 5, 6}
	calls := map[string]func(l []uint32) []uint32{
		"added":          func(l []uint32) []uint32 { return filter.Add(l, 9) },
		"added, there":   func(l []uint32) []uint32 { return filter.Add(l, 2) },
		"dropped":        func(l []uint32) []uint32 { return filter.Drop(l, 1) },
		"dropped, last":  func(l []uint32) []uint32 { return filter.Drop(l, 3) },
		"dropped, other": func(l []uint32) []uint32 { return filter.Drop(l, 9) },
	}
	for name, call := range calls {
		first := call(whole[:3])
		was := slices.Clone(first)
		if !slices.Equal(whole, []uint32{1, 2, 3, 4, 5, 6}) {
			t.Fatal(name, whole)
		}
		left, right := filter.Add(first, 70), filter.Add(first, 80)
		if left[len(left)-1] != 70 || right[len(right)-1] != 80 || !slices.Equal(first, was) {
			t.Error(name, "two lists made of one meddle with each other", left, right, first)
		}
		filter.Drop(first, was[0])
		if !slices.Equal(first, was) {
			t.Error(name, first)
		}
	}
	filter.All(whole[:2], whole[2:4])
	if !slices.Equal(whole, []uint32{1, 2, 3, 4, 5, 6}) {
		t.Error(whole)
	}
}

// Rule 3: nil and empty lists are one.
func TestEmptyLists(t *testing.T) {
	none, empty := []uint32(nil), []uint32{}
	if len(filter.Add(none, 1)) != 1 || len(filter.Add(empty, 1)) != 1 || len(filter.Drop(none, 1)) != 0 || len(filter.Drop(empty, 1)) != 0 {
		t.Error("Add, Drop")
	}
	if !filter.All(none, empty) || !filter.All(empty, none) || filter.All(none, []uint32{1}) || filter.All(empty, []uint32{1}) {
		t.Error("All")
	}
	p := api.Prefix{Addr: 10 << 24, Len: 8}
	if filter.Any(nil, p) || filter.Any([]api.Range{}, p) {
		t.Error("Any")
	}
}
