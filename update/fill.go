package update

import (
	"bytes"
	"slices"

	"speculum/api"
)

// Fill is the body of one message, and what is left.
func Fill(u api.Update, wide bool, room int) ([]byte, api.Update, api.Errno) {
	said, e := saying(u, wide)
	if e != api.OK {
		return nil, api.Update{}, e
	}
	// Nothing finds room below 0 either, where taking more away might run over.
	free := min(max(room, 0), most) - lengths
	var b []byte
	switch {
	case len(u.Gone) > 0:
		gone, left := within(free)(u.Gone...)
		if len(gone) == 0 {
			return nil, api.Update{}, api.ELONG
		}
		b, u.Gone = body(gone, nil, nil), left
	case len(u.News) > 0:
		news, left := within(free - len(said))(u.News...)
		if len(news) == 0 {
			return nil, api.Update{}, api.ELONG
		}
		b, u.News = body(nil, said, news), left
	}
	return b, own(u), api.OK
}

// own is an update with lists of its own; without News it has no attributes.
func own(u api.Update) api.Update {
	out := api.Update{Gone: slices.Clone(u.Gone), News: slices.Clone(u.News)}
	if len(u.News) > 0 {
		out.Attrs = ownAttrs(u.Attrs)
	}
	return out
}

func ownAttrs(a api.Attrs) api.Attrs {
	a.Path = slices.Clone(a.Path)
	for i, s := range a.Path {
		a.Path[i].AS = slices.Clone(s.AS)
	}
	a.Comms = slices.Clone(a.Comms)
	a.Raws = slices.Clone(a.Raws)
	for i, r := range a.Raws {
		a.Raws[i].Data = bytes.Clone(r.Data)
	}
	return a
}
