package fsm_test

import (
	"bytes"
	"fmt"
	"math"
	"slices"
	"strconv"
	"strings"
	"testing"

	"speculum/api"
	"speculum/fsm"
	"speculum/notice"
)

// Deeds, as P21.1 numbers them.
const (
	dial          = 1
	hangUp        = 2
	sendOpen      = 4
	sendKeepalive = 8
	sendNotice    = 16
	rise          = 32
	fall          = 64
	runRetry      = 128
	runLong       = 256
	runHold       = 512
	runKeep       = 1024
	stopTimes     = 2048
)

// letters are the deeds of the chapter's table, each at its bit.
const letters = "DHOKNRFrLhkx"

// words is the chapter's table: a line an event, a cell a state.
const words = `Start 0 | 1 Dr | 1 | 2 | 3 | 4 | 5
Stop 1 | 0 | 0 Hx | 0 Hx | 0 NHx | 0 NHx | 0 NHxF
Up 2 | 0 H | 3 xOL | 3 xOL | 3 | 4 | 5
Down 3 | 0 | 2 r | 0 Hx | 2 xr | 0 x | 0 xF
Retry 4 | 0 | 1 Dr | 1 Dr | 0 NHx | 0 NHx | 0 NHxF
Hold 5 | 0 | 0 Hx | 0 Hx | 0 NHx | 0 NHx | 0 NHxF
Keep 6 | 0 | 0 Hx | 0 Hx | 0 NHx | 4 Kk | 5 Kk
Open 7 | 0 | 0 Hx | 0 Hx | 4 Khk | 0 NHx | 0 NHxF
BadHead 8 | 0 | 0 Hx | 0 Hx | 0 NHx | 0 NHx | 0 NHxF
BadOpen 9 | 0 | 0 Hx | 0 Hx | 0 NHx | 0 NHx | 0 NHxF
Dump 10 | 0 | 0 Hx | 0 Hx | 0 NHx | 0 NHx | 0 NHxF
Notice 11 | 0 | 0 Hx | 0 Hx | 0 Hx | 0 Hx | 0 HxF
Keepalive 12 | 0 | 0 Hx | 0 Hx | 0 NHx | 5 hR | 5 h
Update 13 | 0 | 0 Hx | 0 Hx | 0 NHx | 0 NHx | 5 h
BadUpdate 14 | 0 | 0 Hx | 0 Hx | 0 NHx | 0 NHx | 0 NHxF
Limit 15 | 0 | 0 Hx | 0 Hx | 0 NHx | 0 NHx | 0 NHxF`

// cell is a step as the chapter's table has it.
type cell struct{ event, from, to, deeds int }

// cells is all steps of the chapter's table.
func cells() []cell {
	var out []cell
	for event, line := range strings.Split(words, "\n") {
		row := strings.Split(line, " | ")
		for from, text := range row[1:] {
			next, deeds, _ := strings.Cut(text, " ")
			to, _ := strconv.Atoi(next)
			c := cell{event: event, from: from, to: to}
			for _, r := range deeds {
				c.deeds |= 1 << strings.IndexRune(letters, r)
			}
			out = append(out, c)
		}
	}
	return out
}

// odd are numbers of which there is neither a state nor an event.
var odd = []int{-1, 16, -2, 17, -16, 255, 256, 1 << 16, 1 << 32, -1 << 32, math.MaxInt, math.MinInt}

// P21.1

func TestEachCell(t *testing.T) {
	l := cells()
	if len(l) != 96 {
		t.Fatal(len(l))
	}
	for _, c := range l {
		if to, deeds := fsm.Step(c.from, c.event); to != c.to || deeds != c.deeds {
			t.Error(c, to, deeds)
		}
	}
}

// Some of them, by names and bits.
func TestSomeSteps(t *testing.T) {
	for _, x := range []struct{ from, event, to, deeds int }{
		{api.SIdle, api.EvStart, api.SConnect, dial | runRetry},
		{api.SIdle, api.EvUp, api.SIdle, hangUp},
		{api.SConnect, api.EvUp, api.SOpenSent, stopTimes | sendOpen | runLong},
		{api.SActive, api.EvRetry, api.SConnect, dial | runRetry},
		{api.SConnect, api.EvDown, api.SActive, runRetry},
		{api.SOpenSent, api.EvDown, api.SActive, stopTimes | runRetry},
		{api.SOpenSent, api.EvOpen, api.SOpenConfirm, sendKeepalive | runHold | runKeep},
		{api.SOpenConfirm, api.EvKeepalive, api.SEstablished, runHold | rise},
		{api.SEstablished, api.EvKeepalive, api.SEstablished, runHold},
		{api.SEstablished, api.EvUpdate, api.SEstablished, runHold},
		{api.SEstablished, api.EvKeep, api.SEstablished, sendKeepalive | runKeep},
		{api.SEstablished, api.EvDown, api.SIdle, stopTimes | fall},
		{api.SEstablished, api.EvNotice, api.SIdle, hangUp | stopTimes | fall},
		{api.SEstablished, api.EvLimit, api.SIdle, sendNotice | hangUp | stopTimes | fall},
		{api.SOpenConfirm, api.EvDump, api.SIdle, sendNotice | hangUp | stopTimes},
		{api.SActive, api.EvStop, api.SIdle, hangUp | stopTimes},
		{api.SIdle, api.EvLimit, api.SIdle, 0},
		{api.SEstablished, api.EvStart, api.SEstablished, 0},
	} {
		if to, deeds := fsm.Step(x.from, x.event); to != x.to || deeds != x.deeds {
			t.Error(x, to, deeds)
		}
	}
}

func TestOfNoStateOrEvent(t *testing.T) {
	for _, n := range append(odd, 6, 7) {
		for event := range api.Events {
			if to, deeds := fsm.Step(n, event); to != 0 || deeds != 0 {
				t.Error(n, event, to, deeds)
			}
		}
	}
	for _, n := range odd {
		for state := range 6 {
			if to, deeds := fsm.Step(state, n); to != 0 || deeds != 0 {
				t.Error(state, n, to, deeds)
			}
		}
		for _, m := range odd {
			if to, deeds := fsm.Step(n, m); to != 0 || deeds != 0 {
				t.Error(n, m, to, deeds)
			}
		}
	}
}

// P21.2

// faults are such as may be handed in.
func faults() []api.Fault {
	return []api.Fault{{}, {Code: 3, Sub: 3, Data: []byte{1}}, {Code: 1, Sub: 2, Data: []byte{0, 18}}, {Code: 2, Sub: 2}, {Code: -7, Sub: 999}, {Code: 5}}
}

// told is what an event's NOTIFICATION says.
func told(event int, f api.Fault) api.Fault {
	l := map[int]api.Fault{
		api.EvBadHead: f, api.EvBadOpen: f, api.EvBadUpdate: f,
		api.EvHold: {Code: 4}, api.EvStop: {Code: 6, Sub: 2}, api.EvDump: {Code: 6, Sub: 7}, api.EvLimit: {Code: 6, Sub: 1},
	}
	if out, ok := l[event]; ok {
		return out
	}
	return api.Fault{Code: 5}
}

func TestFault(t *testing.T) {
	events := slices.Clone(odd)
	for event := range api.Events {
		events = append(events, event)
	}
	for _, event := range events {
		for _, f := range faults() {
			if got := fsm.Fault(event, f); !notice.Same(got, told(event, f)) {
				t.Error(event, f, got)
			}
		}
	}
}

// P21.3

// sent is the kinds of messages that deeds send.
func sent(deeds int) []int {
	var l []int
	if deeds&sendOpen != 0 {
		l = append(l, api.MOpen)
	}
	if deeds&sendKeepalive != 0 {
		l = append(l, api.MKeepalive)
	}
	if deeds&sendNotice != 0 {
		l = append(l, api.MNotice)
	}
	return l
}

// trace is a step of the table, of an event that told a fault.
func trace(c cell, f api.Fault) api.Trace {
	t := api.Trace{Event: c.event, From: c.from, To: c.to, Sent: sent(c.deeds)}
	if c.deeds&sendNotice != 0 {
		t.Fault = told(c.event, f)
	}
	return t
}

func TestLegal(t *testing.T) {
	for _, c := range cells() {
		for _, f := range faults() {
			if x := trace(c, f); !fsm.Legal(x) {
				t.Error(x)
			}
		}
	}
}

func TestNotLegalByState(t *testing.T) {
	states := append([]int{0, 1, 2, 3, 4, 5, 6}, odd...)
	for _, c := range cells() {
		for _, n := range states {
			x := trace(c, api.Fault{Code: 3})
			x.To = n
			if fsm.Legal(x) != (n == c.to) {
				t.Error(x)
			}
		}
		for _, n := range append(odd, 6, 7) {
			x := trace(c, api.Fault{Code: 3})
			x.From = n
			if fsm.Legal(x) {
				t.Error(x)
			}
		}
	}
}

// A step by no event, or from no state, is none of the table, also where nothing is said to have happened.
func TestNotLegalWithoutAnEvent(t *testing.T) {
	for _, n := range odd {
		for from := range 6 {
			for _, to := range []int{0, from} {
				if x := (api.Trace{Event: n, From: from, To: to}); fsm.Legal(x) {
					t.Error(x)
				}
			}
		}
	}
	for _, n := range append(odd, 6, 7) {
		for event := range api.Events {
			for _, to := range []int{0, n} {
				if x := (api.Trace{Event: event, From: n, To: to}); fsm.Legal(x) {
					t.Error(x)
				}
			}
		}
	}
}

// lists are all lists of up to three kinds of messages.
func lists() [][]int {
	out := [][]int{nil}
	for i := 0; i < len(out); i++ {
		if len(out[i]) == 3 {
			continue
		}
		for _, kind := range []int{-1, 0, api.MOpen, api.MUpdate, api.MNotice, api.MKeepalive, 5} {
			out = append(out, append(slices.Clone(out[i]), kind))
		}
	}
	return out
}

func TestNotLegalBySent(t *testing.T) {
	all := lists()
	for _, c := range cells() {
		for _, l := range all {
			x := trace(c, api.Fault{Code: 3})
			x.Sent = l
			if fsm.Legal(x) != slices.Equal(l, sent(c.deeds)) {
				t.Error(x)
			}
		}
	}
}

func TestNotLegalByFault(t *testing.T) {
	for _, c := range cells() {
		right := trace(c, api.Fault{Code: 3, Sub: 1})
		for _, f := range []api.Fault{
			{}, {Code: 3, Sub: 1}, {Code: 4}, {Code: 4, Data: []byte{0}}, {Code: 4, Sub: 1}, {Code: 5}, {Code: 5, Sub: 1}, {Code: 5, Data: []byte{5}},
			{Code: 6, Sub: 1}, {Code: 6, Sub: 2}, {Code: 6, Sub: 2, Data: []byte{1}}, {Code: 6, Sub: 7}, {Code: 6}, {Code: 6, Sub: 8}, {Code: -1},
		} {
			x := right
			x.Fault = f
			var want bool
			switch {
			case c.deeds&sendNotice == 0:
				want = f.Code == 0
			default:
				// What a peer's bytes are told of may be any fault.
				want = notice.Same(f, told(c.event, f))
			}
			if fsm.Legal(x) != want {
				t.Error(x)
			}
		}
	}
}

// Some, word by word.
func TestSomeTraces(t *testing.T) {
	none, shut := api.Fault{}, api.Fault{Code: 6, Sub: 2}
	path := api.Fault{Code: 3, Sub: 11, Data: []byte{1, 2}}
	for _, x := range []struct {
		t    api.Trace
		want bool
	}{
		{api.Trace{Event: api.EvStart, From: api.SIdle, To: api.SConnect}, true},
		{api.Trace{Event: api.EvStart, From: api.SIdle, To: api.SActive}, false},
		{api.Trace{Event: api.EvUp, From: api.SConnect, To: api.SOpenSent, Sent: []int{api.MOpen}}, true},
		{api.Trace{Event: api.EvUp, From: api.SConnect, To: api.SOpenSent}, false},
		{api.Trace{Event: api.EvUp, From: api.SConnect, To: api.SOpenSent, Sent: []int{api.MOpen, api.MKeepalive}}, false},
		{api.Trace{Event: api.EvUp, From: api.SConnect, To: api.SOpenSent, Sent: []int{api.MKeepalive, api.MOpen}}, false},
		{api.Trace{Event: api.EvUp, From: api.SConnect, To: api.SOpenSent, Sent: []int{api.MOpen}, Fault: shut}, false},
		{api.Trace{Event: api.EvOpen, From: api.SOpenSent, To: api.SOpenConfirm, Sent: []int{api.MKeepalive}}, true},
		{api.Trace{Event: api.EvOpen, From: api.SOpenSent, To: api.SOpenConfirm, Sent: []int{api.MOpen}}, false},
		{api.Trace{Event: api.EvStop, From: api.SEstablished, To: api.SIdle, Sent: []int{api.MNotice}, Fault: shut}, true},
		{api.Trace{Event: api.EvStop, From: api.SEstablished, To: api.SIdle, Sent: []int{api.MNotice}, Fault: none}, false},
		{api.Trace{Event: api.EvStop, From: api.SEstablished, To: api.SIdle, Sent: []int{api.MNotice}, Fault: path}, false},
		{api.Trace{Event: api.EvStop, From: api.SEstablished, To: api.SIdle, Fault: shut}, false},
		{api.Trace{Event: api.EvStop, From: api.SConnect, To: api.SIdle}, true},
		{api.Trace{Event: api.EvStop, From: api.SConnect, To: api.SIdle, Fault: shut}, false},
		{api.Trace{Event: api.EvBadUpdate, From: api.SEstablished, To: api.SIdle, Sent: []int{api.MNotice}, Fault: path}, true},
		{api.Trace{Event: api.EvBadUpdate, From: api.SEstablished, To: api.SEstablished}, false},
		{api.Trace{Event: api.EvKeepalive, From: api.SOpenConfirm, To: api.SEstablished}, true},
		{api.Trace{}, false},
		{api.Trace{Event: api.EvHold}, true},
	} {
		if fsm.Legal(x.t) != x.want {
			t.Error(x.t, !x.want)
		}
	}
}

func TestName(t *testing.T) {
	l := []string{"idle", "connect", "active", "opensent", "openconfirm", "established"}
	for state, want := range l {
		if got := fsm.Name(state); got != want {
			t.Error(state, got)
		}
	}
	for _, n := range append(odd, 6, 7) {
		if got := fsm.Name(n); got != "" {
			t.Error(n, got)
		}
	}
}

// P21.4

func TestWhatFollows(t *testing.T) {
	for from := range 6 {
		for event := range api.Events {
			to, deeds := fsm.Step(from, event)
			if falls := from == api.SEstablished && to != api.SEstablished; falls != (deeds&fall != 0) {
				t.Error(from, event, "falls")
			}
			if rises := from != api.SEstablished && to == api.SEstablished; rises != (deeds&rise != 0) {
				t.Error(from, event, "rises")
			}
			if deeds&sendNotice != 0 && (deeds&hangUp == 0 || to != api.SIdle) {
				t.Error(from, event, "sends a NOTIFICATION")
			}
		}
	}
}

// A session from its start to its end, one step behind the other.
func TestAWholeSession(t *testing.T) {
	state := api.SIdle
	for _, x := range []struct{ event, to, deeds int }{
		{api.EvStart, api.SConnect, dial | runRetry},
		{api.EvRetry, api.SConnect, dial | runRetry},
		{api.EvDown, api.SActive, runRetry},
		{api.EvRetry, api.SConnect, dial | runRetry},
		{api.EvUp, api.SOpenSent, stopTimes | sendOpen | runLong},
		{api.EvOpen, api.SOpenConfirm, sendKeepalive | runHold | runKeep},
		{api.EvKeep, api.SOpenConfirm, sendKeepalive | runKeep},
		{api.EvKeepalive, api.SEstablished, runHold | rise},
		{api.EvUpdate, api.SEstablished, runHold},
		{api.EvKeep, api.SEstablished, sendKeepalive | runKeep},
		{api.EvHold, api.SIdle, sendNotice | hangUp | stopTimes | fall},
		{api.EvUpdate, api.SIdle, 0},
	} {
		to, deeds := fsm.Step(state, x.event)
		if to != x.to || deeds != x.deeds {
			t.Error(state, x.event, to, deeds)
		}
		state = x.to
	}
}

// Rule 3: nil and empty are one.
func TestNilAndEmpty(t *testing.T) {
	for _, c := range cells() {
		x := trace(c, api.Fault{Code: 1, Sub: 1})
		y := x
		y.Sent = append([]int{}, x.Sent...)
		y.Fault.Data = []byte{}
		if !fsm.Legal(x) || !fsm.Legal(y) {
			t.Error(x, y)
		}
	}
	if got := fsm.Fault(api.EvBadOpen, api.Fault{Code: 2, Sub: 1, Data: []byte{}}); got.Code != 2 || got.Sub != 1 || len(got.Data) != 0 {
		t.Error(got)
	}
}

// Rules 4 and 5: nothing that is handed in is changed, nor the room behind it, and the same is told again.
func TestChangesNothing(t *testing.T) {
	data := []byte{1, 2, 3, 91, 92}
	list := []int{api.MNotice, 77, 78}
	x := api.Trace{Event: api.EvBadHead, From: api.SEstablished, Sent: list[:1], Fault: api.Fault{Code: 1, Sub: 2, Data: data[:3]}}
	ahead := fmt.Sprint(x, data, list)
	for range 2 {
		if !fsm.Legal(x) {
			t.Error(x)
		}
		if f := fsm.Fault(api.EvBadHead, x.Fault); f.Code != 1 || f.Sub != 2 || !bytes.Equal(f.Data, []byte{1, 2, 3}) {
			t.Error(f)
		}
	}
	if fmt.Sprint(x, data, list) != ahead {
		t.Error(x, data, list)
	}
}
