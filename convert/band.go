package convert

import (
	"bodkin/api"
	"bodkin/flow"
	"bodkin/state"
)

// band is the rows of some of a state's lines, and how many rows are ahead of them.
type band struct {
	rows  []api.Row
	ahead int
}

// in is a point among all rows as one among the band's.
func (b band) in(p api.Point) api.Point { return api.Point{Row: p.Row - b.ahead, Col: p.Col} }

// out is a point among the band's rows as one among all.
func (b band) out(p api.Point) api.Point { return api.Point{Row: p.Row + b.ahead, Col: p.Col} }

// told is the point that is told of, shifted, if there is no error.
func told(p api.Point, e api.Errno, shift func(api.Point) api.Point) (api.Point, api.Errno) {
	if e != api.OK {
		return api.Point{}, e
	}
	return shift(p), api.OK
}

// line lays out the line of a state that its flow finds.
func line(s *state.State, find func(at int) (flow.Spot, api.Errno), at int) (band, api.Errno) {
	if s == nil {
		return band{}, api.ErrState
	}
	x, e := find(at)
	if e != api.OK {
		return band{}, e
	}
	return lay(s, x.Line, x.Line+1)
}

// lay lays out a state's lines from one on, up to another one.
func lay(s *state.State, from, to int) (band, api.Errno) {
	f := s.Maps().Flow
	ahead := above(f, from)
	rows, e := s.Rows(ahead, above(f, to))
	return band{rows: rows, ahead: ahead}, e
}

// above is how many rows are ahead of a line, or of what is behind the last one.
func above(f *flow.Flow, line int) int {
	x, e := f.ByLine(line)
	if e != api.OK {
		return f.Sum().Rows
	}
	return x.Row
}
