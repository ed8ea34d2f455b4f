package state

import (
	"bodkin/api"
	"bodkin/cells"
	"bodkin/flow"
	"bodkin/layout"
	"bodkin/source"
	"bodkin/wrap"
)

// Rows are some rows.
func (s *State) Rows(from, to int) ([]api.Row, api.Errno) {
	if s == nil {
		return nil, api.ErrState
	}
	if from < 0 || to < from || to > s.Flow.Sum().Rows {
		return nil, api.ErrArg
	}
	if from == to { // there may be no row at all that begins there
		return nil, api.OK
	}
	first, _ := s.Flow.ByRow(from)
	v := s.view()
	var l []api.Row
	for at := first.Buffer; first.Row+len(l) < to; {
		x, e := source.At(v.Text, at)
		if e != api.OK { // of maps that are not right
			return nil, e
		}
		own, _ := layout.Line(v, x) // there is no error: it is a line of the text
		l = append(l, own...)
		at = x.To + 1
	}
	return l[from-first.Row : to-first.Row], api.OK
}

// Lines are what the flow has to have of some lines.
func (s *State) Lines(from, to int) ([]flow.Line, api.Errno) {
	if s == nil {
		return nil, api.ErrState
	}
	return Measure(s.Parts(), from, to)
}

// Measure is what the flow has to have of some lines of parts.
func Measure(p Parts, from, to int) ([]flow.Line, api.Errno) {
	if e := Check(p); e != api.OK {
		return nil, e
	}
	v := p.view()
	var l []source.Line
	for at := from; ; {
		x, e := source.At(v.Text, at)
		switch {
		case e != api.OK: // no line begins there
			return nil, e
		case x.To > to: // none ends there
			return nil, api.ErrArg
		}
		l = append(l, x)
		if x.To == to {
			return measure(v, l), api.OK
		}
		at = x.To + 1
	}
}

// measure is what the flow has to have of lines of a view that is right.
func measure(v layout.View, lines []source.Line) []flow.Line {
	var l []flow.Line
	for _, x := range lines {
		shown, _ := cells.Of(v.Table, x.Parts, v.Tab)
		rows, wide, _ := wrap.Count(shown, v.Width)
		own := flow.Line{Shown: source.Size(x), Buffer: x.To - x.From, Rows: rows, Wide: wide}
		if x.To < v.Text.Rope.Runes() { // it ends at a break
			own.Shown++
			own.Buffer++
		}
		l = append(l, own)
	}
	return l
}
