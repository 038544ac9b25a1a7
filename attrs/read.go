package attrs

import (
	"bytes"
	"cmp"
	"slices"

	"speculum/api"
	"speculum/aspath"
	"speculum/octet"
)

// The fault's Code, and its Subs.
const (
	faulty     = 3
	badList    = 1
	badUnknown = 2
	badFlags   = 4
	badSize    = 5
	badOrigin  = 6
	badNext    = 8
	badOption  = 9
	badPath    = 11
)

// part is an attribute as it stands.
type part struct {
	flags, kind int
	value       []byte
	whole       []byte // with all that is ahead of the value
}

// fault has the attribute as it stands as Data.
func (p part) fault(sub int) api.Fault {
	return api.Fault{Code: faulty, Sub: sub, Data: bytes.Clone(p.whole)}
}

// bare is a fault without Data.
func bare(sub int) api.Fault { return api.Fault{Code: faulty, Sub: sub} }

// next is the attribute that a reader of b is at; false, if it does not end there.
func next(r *octet.Reader, b []byte) (part, bool) {
	from := len(b) - r.Left()
	flags := r.Byte()
	kind := r.Byte()
	length := r.Byte
	if flags&extended != 0 {
		length = r.U16
	}
	value := r.Take(length())
	if r.Err() != api.OK {
		return part{}, false
	}
	return part{flags: flags, kind: kind, value: value, whole: b[from : len(b)-r.Left()]}, true
}

// reading is what was read so far. Path and aggregator in wide numbers wait until all is read.
type reading struct {
	wide  bool
	attrs api.Attrs
	kinds []int
	path  []api.Segment
	aggr  []byte
}

// Read is what bytes say.
func Read(b []byte, wide bool) (api.Attrs, []int, api.Fault) {
	x := reading{wide: wide, attrs: Zero()}
	r := octet.New(b)
	for r.Left() > 0 {
		p, ends := next(r, b)
		if !ends || slices.Contains(x.kinds, p.kind) {
			return api.Attrs{}, nil, bare(badList)
		}
		if f := x.take(p); f.Code != 0 {
			return api.Attrs{}, nil, f
		}
		x.kinds = append(x.kinds, p.kind)
	}
	x.widen()
	return x.attrs, x.kinds, api.Fault{}
}

// take takes an attribute in, or tells what is wrong with it.
func (x *reading) take(p part) api.Fault {
	l, known := lookOf(p.kind)
	switch {
	case !known:
		return x.keep(p)
	case !l.bears(p.flags):
		return p.fault(badFlags)
	case !l.fits(len(p.value), x.wide):
		return p.fault(badSize)
	}
	return x.say(p)
}

// keep takes in an attribute that is not known here.
func (x *reading) keep(p part) api.Fault {
	l := x.attrs.Raws
	switch {
	case p.flags&optional == 0:
		return p.fault(badUnknown)
	case p.flags&transitive == 0:
		return api.Fault{}
	case len(p.value) > api.MaxRaw || len(l) >= api.MaxRaws:
		return p.fault(badOption)
	}
	at, _ := slices.BinarySearchFunc(l, p.kind, func(r api.Raw, kind int) int { return cmp.Compare(r.Type, kind) })
	x.attrs.Raws = slices.Insert(l, at, api.Raw{Flags: rawFlags, Type: p.kind, Data: p.value})
	return api.Fault{}
}

// say takes in what an attribute says whose flags and size may be.
func (x *reading) say(p part) api.Fault {
	a := &x.attrs
	r := octet.New(p.value)
	switch p.kind {
	case kindOrigin:
		if a.Origin = r.Byte(); a.Origin > mostOrigin {
			return p.fault(badOrigin)
		}
	case kindPath:
		path, e := aspath.Read(p.value, x.wide)
		if e != api.OK {
			return bare(badPath)
		}
		a.Path = path
	case kindNext:
		if a.Next = r.U32(); !Next(a.Next) {
			return p.fault(badNext)
		}
	case kindMed:
		a.Med = int(r.U32())
	case kindPref:
		a.Pref = int(r.U32())
	case kindAtomic:
		a.Atomic = true
	case kindAggr:
		a.HasAggr = true
		a.AggrAS, a.AggrAddr = aggregatorOf(p.value, x.wide)
	case kindComms:
		if r.Left() > 4*api.MaxComms {
			return p.fault(badOption)
		}
		for r.Left() > 0 {
			a.Comms = append(a.Comms, r.U32())
		}
	case kindWidePath:
		// With an error it tells no path, which leaves it out.
		x.path, _ = aspath.Read(p.value, true)
	case kindWideAggr:
		x.aggr = p.value
	}
	return api.Fault{}
}

// aggregatorOf is what an aggregator's value says.
func aggregatorOf(value []byte, wide bool) (uint32, uint32) {
	r := octet.New(value)
	if wide {
		as := r.U32()
		return as, r.U32()
	}
	as := uint32(r.U16())
	return as, r.U32()
}

// widen puts in what stands beside narrow numbers. Another aggregator than Trans knew no wide numbers: what stands beside it is older than it.
func (x *reading) widen() {
	a := &x.attrs
	if x.wide || a.HasAggr && a.AggrAS != api.Trans {
		return
	}
	a.Path = aspath.Merge(a.Path, x.path)
	if a.HasAggr && len(x.aggr) == wideAggr {
		a.AggrAS, a.AggrAddr = aggregatorOf(x.aggr, true)
	}
}
