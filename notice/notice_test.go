package notice_test

import (
	"bytes"
	"fmt"
	"math"
	"strconv"
	"testing"

	"speculum/api"
	"speculum/notice"
)

// P8.1

func TestPut(t *testing.T) {
	for _, c := range []struct {
		f    api.Fault
		want string
	}{
		{api.Fault{Code: 6, Sub: 2}, "\x06\x02"},
		{api.Fault{Code: 6, Sub: 2, Data: []byte{}}, "\x06\x02"},
		{api.Fault{Code: 1, Sub: 2, Data: []byte{0, 18}}, "\x01\x02\x00\x12"},
		{api.Fault{}, "\x00\x00"},
		{api.Fault{Code: 255, Sub: 255, Data: []byte{0}}, "\xff\xff\x00"},
		{api.Fault{Code: 99, Sub: 1}, "\x63\x01"},
	} {
		if b, e := notice.Put(c.f); e != api.OK || string(b) != c.want {
			t.Errorf("%v: %x, %d", c.f, b, e)
		}
	}
	for n, want := range map[int]api.Errno{4074: api.OK, 4075: api.OK, 4076: api.ELONG, 4077: api.ELONG, 70000: api.ELONG} {
		b, e := notice.Put(api.Fault{Code: 3, Sub: 1, Data: make([]byte, n)})
		if e != want || want == api.OK && len(b) != n+2 || want != api.OK && len(b) != 0 {
			t.Error(n, len(b), e)
		}
	}
}

func TestPutRefuses(t *testing.T) {
	for _, n := range []int{-1, 256, 257, -256, math.MaxInt, math.MinInt} {
		// A number that finds no room comes ahead of what is too long.
		for _, size := range []int{0, 1, 4075, 4076} {
			data := make([]byte, size)
			for _, f := range []api.Fault{{Code: n, Sub: 1, Data: data}, {Code: 1, Sub: n, Data: data}, {Code: n, Sub: n, Data: data}} {
				if b, e := notice.Put(f); e != api.EARG || len(b) != 0 {
					t.Error(f.Code, f.Sub, size, len(b), e)
				}
			}
		}
	}
}

func TestRead(t *testing.T) {
	for _, c := range []struct {
		b    string
		want api.Fault
	}{
		{"\x06\x02", api.Fault{Code: 6, Sub: 2}},
		{"\x02\x01\x00\x04", api.Fault{Code: 2, Sub: 1, Data: []byte{0, 4}}},
		{"\x00\x00", api.Fault{}},
		{"\xff\xfe\x00", api.Fault{Code: 255, Sub: 254, Data: []byte{0}}},
	} {
		if f, e := notice.Read([]byte(c.b)); e != api.OK || !notice.Same(f, c.want) {
			t.Errorf("%x: %v, %d", c.b, f, e)
		}
	}
	// How long a body may be is asked where it is put, and where messages are cut.
	if f, e := notice.Read(make([]byte, 5000)); e != api.OK || len(f.Data) != 4998 {
		t.Error(len(f.Data), e)
	}
	for _, b := range [][]byte{nil, {}, {6}} {
		if f, e := notice.Read(b); e != api.ESHORT || !notice.Same(f, api.Fault{}) {
			t.Error(b, f, e)
		}
	}
}

func TestSame(t *testing.T) {
	list := []api.Fault{
		{}, {Code: 1}, {Sub: 1}, {Code: 1, Sub: 1}, {Code: 257, Sub: 1}, {Code: 1, Sub: 257}, {Code: 2, Sub: 1}, {Code: 1, Sub: 2},
		{Code: 1, Sub: 1, Data: []byte{0}}, {Code: 1, Sub: 1, Data: []byte{1}}, {Code: 1, Sub: 1, Data: []byte{0, 0}}, {Code: 1, Sub: 1, Data: []byte{1, 0}},
		{Data: []byte{0}}, {Code: -1}, {Sub: -1},
	}
	for i, a := range list {
		for j, b := range list {
			b.Data = bytes.Clone(b.Data)
			if notice.Same(a, b) != (i == j) {
				t.Error(a, b)
			}
		}
	}
	// Rule 3: nil and empty Data are one.
	none, empty := api.Fault{Code: 6, Sub: 2}, api.Fault{Code: 6, Sub: 2, Data: []byte{}}
	if !notice.Same(none, empty) || !notice.Same(empty, none) {
		t.Error("nil and empty Data")
	}
}

// P8.2

// named is what has a word: by Code, with 0 the code's own, then its Subs'.
func named() map[int]map[int]string {
	return map[int]map[int]string{
		1: {0: "header", 1: "header/sync", 2: "header/length", 3: "header/type"},
		2: {0: "open", 1: "open/version", 2: "open/peer", 3: "open/id", 4: "open/param", 6: "open/hold"},
		3: {0: "update", 1: "update/list", 2: "update/unknown", 3: "update/missing", 4: "update/flags", 5: "update/size", 6: "update/origin",
			8: "update/next", 9: "update/option", 10: "update/prefix", 11: "update/path"},
		4: {0: "hold"},
		5: {0: "state"},
		6: {0: "cease", 1: "cease/limit", 2: "cease/shutdown", 3: "cease/deconfigured", 4: "cease/reset", 5: "cease/rejected",
			6: "cease/changed", 7: "cease/collision", 8: "cease/resources"},
	}
}

func TestNames(t *testing.T) {
	edges := []int{256, 257, 262, -255, 1 << 16, 1<<32 + 1, math.MaxInt, math.MinInt}
	for n := -3; n < 256; n++ {
		edges = append(edges, n)
	}
	for _, code := range edges {
		of := named()[code]
		for _, sub := range edges {
			want, known := of[sub]
			if !known && of != nil {
				want = of[0] + "/" + strconv.Itoa(sub)
			}
			if got := notice.Name(code, sub); got != want {
				t.Fatal(code, sub, got)
			}
			if got := notice.Known(code, sub); got != known {
				t.Fatal(code, sub, got)
			}
		}
	}
}

// Some of them, word by word.
func TestSomeNames(t *testing.T) {
	for _, c := range []struct {
		code, sub int
		name      string
		known     bool
	}{
		{6, 1, "cease/limit", true}, {1, 0, "header", true}, {2, 5, "open/5", false}, {2, 7, "open/7", false}, {3, 7, "update/7", false},
		{3, 12, "update/12", false}, {4, 0, "hold", true}, {4, 1, "hold/1", false}, {5, 3, "state/3", false}, {6, 9, "cease/9", false},
		{1, -1, "header/-1", false}, {0, 0, "", false}, {0, 1, "", false}, {7, 0, "", false}, {7, 1, "", false}, {-1, 0, "", false}, {-1, 2, "", false},
	} {
		if name, known := notice.Name(c.code, c.sub), notice.Known(c.code, c.sub); name != c.name || known != c.known {
			t.Error(c.code, c.sub, name, known)
		}
	}
}

func TestCease(t *testing.T) {
	for _, sub := range []int{0, 1, 2, 8, 9, 255, 256, -1, math.MaxInt, math.MinInt} {
		if f := notice.Cease(sub); f.Code != 6 || f.Sub != sub || len(f.Data) != 0 {
			t.Error(sub, f)
		}
	}
}

// P8.3

func TestText(t *testing.T) {
	for _, c := range []struct {
		f    api.Fault
		want string
	}{
		{api.Fault{Code: 6, Sub: 1}, "cease/limit"},
		{api.Fault{Code: 4, Data: []byte{}}, "hold"},
		{api.Fault{Code: 2, Sub: 1, Data: []byte{0, 4}}, "open/version 0004"},
		{api.Fault{Code: 3, Data: []byte{0xab}}, "update ab"},
		{api.Fault{Code: 3, Sub: 77, Data: []byte{0, 0xff, 0x10}}, "update/77 00ff10"},
		{api.Fault{}, ""},
		{api.Fault{Code: 9, Sub: 3}, ""},
		// A name of nothing is no reason to tell no Data.
		{api.Fault{Code: 9, Sub: 3, Data: []byte{1, 2}}, " 0102"},
	} {
		if got := notice.Text(c.f); got != c.want {
			t.Errorf("%v: %q", c.f, got)
		}
	}
}

// P8.4

func TestWhatIsPutIsRead(t *testing.T) {
	data := make([]byte, 4075)
	for i := range data {
		data[i] = byte(i + i>>8)
	}
	for code := range 256 {
		for sub := range 256 {
			f := api.Fault{Code: code, Sub: sub, Data: data[:(code*31+sub)%40]}
			b, e := notice.Put(f)
			if got, e2 := notice.Read(b); e != api.OK || e2 != api.OK || !notice.Same(got, f) {
				t.Fatal(f, e, got, e2)
			}
		}
	}
	for n := 0; n <= len(data); n += 5 {
		f := api.Fault{Code: 3, Sub: 4, Data: data[:n]}
		b, e := notice.Put(f)
		if got, e2 := notice.Read(b); e != api.OK || e2 != api.OK || !notice.Same(got, f) {
			t.Fatal(n, e, e2)
		}
	}
}

// Rule 4: what is handed in is not changed, nor the room behind it, and no answer hangs together with it.
func TestChangesNothing(t *testing.T) {
	data := []byte{1, 2, 3, 91, 92}
	f := api.Fault{Code: 1, Sub: 2, Data: data[:3]}
	ahead := fmt.Sprint(data, f)
	b, _ := notice.Put(f)
	for i := range b {
		b[i] = 99
	}
	body := []byte{6, 2, 7, 8, 9}
	got, _ := notice.Read(body[:4])
	got.Data[0] = 99
	_ = append(got.Data, 99)
	notice.Text(f)
	if fmt.Sprint(data, f) != ahead || !bytes.Equal(body, []byte{6, 2, 7, 8, 9}) {
		t.Error(data, f, body)
	}
}
