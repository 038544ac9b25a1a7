package update

import (
	"slices"

	"speculum/api"
	"speculum/aspath"
	"speculum/attrs"
	"speculum/octet"
	"speculum/prefix"
)

// The fault's Code, and its Subs.
const (
	faulty     = 3
	badList    = 1
	badMissing = 3
	badPrefix  = 10
	badPath    = 11
)

// Kinds of attributes that must be there with News.
const (
	kindOrigin = 1
	kindPath   = 2
	kindNext   = 3
	kindPref   = 5
)

func fault(sub int, data ...byte) api.Fault {
	return api.Fault{Code: faulty, Sub: sub, Data: data}
}

// Read is what a body says.
func Read(b []byte, wide, inner bool, near uint32) (api.Update, api.Fault) {
	r := octet.New(b)
	ahead := r.Take(r.U16())
	said := r.Take(r.U16())
	if r.Err() != api.OK {
		return api.Update{}, fault(badList)
	}
	gone, e := prefix.List(ahead)
	if e != api.OK {
		return api.Update{}, fault(badPrefix)
	}
	a, kinds, f := attrs.Read(said, wide)
	if f.Code != 0 {
		return api.Update{}, f
	}
	news, e := prefix.List(r.Take(r.Left()))
	if e != api.OK {
		return api.Update{}, fault(badPrefix)
	}
	if len(news) == 0 {
		return api.Update{Gone: gone}, api.Fault{}
	}
	if f := unfit(a, kinds, inner, near); f.Code != 0 {
		return api.Update{}, f
	}
	if !inner {
		// How much a route is preferred is told within a system alone.
		a.Pref = -1
	}
	return api.Update{Gone: gone, Attrs: a, News: news}, api.Fault{}
}

// unfit is what is wrong with attributes, right in themselves, as those of News.
func unfit(a api.Attrs, kinds []int, inner bool, near uint32) api.Fault {
	needed := []int{kindOrigin, kindPath, kindNext}
	if inner {
		needed = append(needed, kindPref)
	}
	for _, kind := range needed {
		if !slices.Contains(kinds, kind) {
			return fault(badMissing, byte(kind))
		}
	}
	// Without a first number it is 0, which is not near either.
	if first, _ := aspath.First(a.Path); !inner && near != 0 && first != near {
		return fault(badPath)
	}
	return api.Fault{}
}
