package attrs

import (
	"math"
	"slices"

	"speculum/api"
	"speculum/aspath"
	"speculum/octet"
)

// Put is attributes' bytes.
func Put(a api.Attrs, wide bool) ([]byte, api.Errno) {
	if !Right(a) {
		return nil, api.EARG
	}
	var out []byte
	put := func(there bool, kind int, value func() []byte) {
		if there {
			l, _ := lookOf(kind)
			out = append(out, whole(l.flags, kind, value())...)
		}
	}
	put(true, kindOrigin, func() []byte { return []byte{byte(a.Origin)} })
	put(true, kindPath, func() []byte { return aspath.Put(a.Path, wide) })
	put(true, kindNext, four(a.Next))
	put(a.Med >= 0, kindMed, four(uint32(a.Med)))
	put(a.Pref >= 0, kindPref, four(uint32(a.Pref)))
	put(a.Atomic, kindAtomic, func() []byte { return nil })
	put(a.HasAggr, kindAggr, func() []byte { return aggregator(a, wide) })
	put(len(a.Comms) > 0, kindComms, four(a.Comms...))
	for _, r := range a.Raws {
		out = append(out, whole(r.Flags, r.Type, r.Data)...)
	}
	put(!wide && slices.ContainsFunc(aspath.Flat(a.Path), big), kindWidePath, func() []byte { return aspath.Put(a.Path, true) })
	put(!wide && big(a.AggrAS), kindWideAggr, func() []byte { return aggregator(a, true) })
	return out, api.OK
}

// big tells whether a number finds no room in two bytes.
func big(as uint32) bool { return as > math.MaxUint16 }

// whole is an attribute's bytes.
func whole(flags, kind int, value []byte) []byte {
	if len(value) > math.MaxUint8 {
		return slices.Concat([]byte{byte(flags | extended), byte(kind)}, octet.Put16(nil, len(value)), value)
	}
	return slices.Concat([]byte{byte(flags), byte(kind), byte(len(value))}, value)
}

// four puts numbers of four bytes each.
func four(l ...uint32) func() []byte {
	return func() []byte {
		var out []byte
		for _, n := range l {
			out = append(out, octet.Put32(nil, n)...)
		}
		return out
	}
}

// aggregator is the value that tells who put routes together.
func aggregator(a api.Attrs, wide bool) []byte {
	return slices.Concat(system(a.AggrAS, wide), octet.Put32(nil, a.AggrAddr))
}

// system is a system's number, as it stands in a path of it alone, behind the two bytes ahead of a segment's numbers.
func system(as uint32, wide bool) []byte {
	alone := []api.Segment{{Kind: api.Seq, AS: []uint32{as}}}
	return aspath.Put(alone, wide)[2:]
}
