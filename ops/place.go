package ops

import (
	"slices"

	"bodkin/api"
)

// placing tells the place of a byte.
type placing func(at int) (int, api.Errno)

// span is the places between two bytes.
func span(a, b int, place placing) (api.Span, api.Errno) {
	from, e := place(a)
	if e != api.OK {
		return api.Span{}, e
	}
	to, e := place(b)
	return api.Span{From: from, To: to}, e
}

// placedEdits are edits at bytes, at places of runes.
func placedEdits(l []api.Edit, place placing) ([]api.Edit, api.Errno) {
	if len(l) > api.MaxEdits {
		return nil, api.ErrLong
	}
	at := slices.Clone(l)
	for i, x := range at {
		own, e := span(x.From, x.To, place)
		if e != api.OK {
			return nil, e
		}
		at[i].From, at[i].To = own.From, own.To
	}
	return at, api.OK
}

// placedInlays are inlays at bytes, at places of runes.
func placedInlays(l []api.Inlay, place placing) ([]api.Inlay, api.Errno) {
	if len(l) > api.MaxInlays {
		return nil, api.ErrFull
	}
	at := slices.Clone(l)
	for i, x := range at {
		own, e := place(x.At)
		if e != api.OK {
			return nil, e
		}
		at[i].At = own
	}
	return at, api.OK
}
