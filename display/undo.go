package display

import (
	"slices"

	"bodkin/api"
	"bodkin/folds"
	"bodkin/inlays"
	"bodkin/ops"
	"bodkin/reflow"
	"bodkin/state"
)

// inlaid and folded stand between both sets and what embeds them, as either of them is called a Set.
type inlaid struct{ Inlays *inlays.Set }

type folded struct{ Folds *folds.Set }

// sets are what was there when a step was undone.
type sets struct {
	inlaid
	folded
}

// again are parts with these sets.
func (s sets) again(p state.Parts) state.Parts {
	p.Inlays, p.Folds = s.Inlays, s.Folds
	return p
}

// applied is what a batch does to the state that the history tells of. There is no error but that there is none: a batch that comes back is right for the text that there is then.
func (d *Display) applied(tell func() ([]api.Edit, api.Errno)) (ops.Done, api.Errno) {
	l, e := tell()
	if e != api.OK {
		return ops.Done{}, e
	}
	return ops.Apply(d.state, l)
}

// undo undoes the last step that can be undone.
func (d *Display) undo() (ops.Done, api.Errno) {
	done, e := d.applied(d.past.Undo)
	if e != api.OK {
		return ops.Done{}, e
	}
	was := d.state.Parts()
	d.undone = append(d.undone, sets{inlaid{was.Inlays}, folded{was.Folds}})
	return done, api.OK
}

// redo does the step again that was undone last.
func (d *Display) redo() (ops.Done, api.Errno) {
	done, e := d.applied(d.past.Redo)
	top := len(d.undone) - 1
	if e != api.OK || top < 0 {
		return done, e
	}
	p := d.undone[top].again(done.State.Parts())
	d.undone = slices.Delete(d.undone, top, top+1)
	old, now := api.Span{To: d.state.Parts().Text.Runes()}, api.Span{To: p.Text.Runes()}
	then, rows, e := reflow.Turn(d.state, p, old, now) // the sets may be unlike anywhere
	return ops.Done{State: then, Patch: rows}, e
}
