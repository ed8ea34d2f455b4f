package ops

import (
	"slices"

	"bodkin/api"
	"bodkin/batch"
	"bodkin/history"
	"bodkin/patch"
	"bodkin/reflow"
	"bodkin/state"
)

// turn is a state's parts, turned: in the buffer's places old stands what now stands in the places now.
type turn struct {
	state.Parts
	old, now api.Span
	gone     int // how many folds were removed
	step     history.Step
}

// do does an operation to parts. Whether tabs and rows may be of some size is not told here.
func (t *turn) do(o api.Op) api.Errno {
	place := t.Text.RuneAt
	switch o.Kind {
	case api.DoEdit:
		l, e := placedEdits(o.Edits, place)
		if e != api.OK {
			return e
		}
		return t.edit(l)
	case api.DoFold:
		x, e := span(o.A, o.B, place)
		if e != api.OK {
			return e
		}
		return t.fold(x)
	case api.DoUnfold:
		x, e := span(o.A, o.B, place)
		if e != api.OK {
			return e
		}
		return t.unfold(x)
	case api.DoInlay:
		l, e := placedInlays(o.Add, place)
		if e != api.OK {
			return e
		}
		return t.splice(o.Remove, l)
	case api.DoWidth:
		t.Width = o.A
	case api.DoTab:
		t.Tab = o.A
	default:
		return api.ErrForm
	}
	return api.OK
}

// edit applies edits at places of runes.
func (t *turn) edit(l []api.Edit) api.Errno {
	text, e := batch.Apply(t.Text, l)
	if e != api.OK {
		return e
	}
	// There is no error any more: the batch is right, its patch is normal, and the sets are for this text.
	back, _ := batch.Invert(t.Text, l)
	changes := patch.Of(l)
	t.old, t.now = reach(changes, t.Text.Runes())
	t.Text = text
	t.Inlays, _ = t.Inlays.Shift(changes)
	t.Folds, _ = t.Folds.Shift(changes)
	t.step = history.Step{Back: back, Forth: slices.Clone(l)}
	return api.OK
}

// reach is what a patch turns of a buffer of n runes: all from its first change to its last one.
func reach(l []patch.Change, n int) (api.Span, api.Span) {
	if len(l) == 0 {
		return api.Span{To: n}, api.Span{To: n}
	}
	first, last := l[0], l[len(l)-1]
	return api.Span{From: first.Old.From, To: last.Old.To}, api.Span{From: first.New.From, To: last.New.To}
}

// turned marks a span as turned, in which as many runes stand now as stood there.
func (t *turn) turned(x api.Span) { t.old, t.now = x, x }

// fold adds a fold.
func (t *turn) fold(x api.Span) api.Errno {
	shut, e := t.Folds.Add(x)
	if e != api.OK {
		return e
	}
	t.Folds = shut
	t.turned(x)
	return api.OK
}

// unfold removes the folds at a span.
func (t *turn) unfold(x api.Span) api.Errno {
	open, n, e := t.Folds.Remove(x)
	if e != api.OK {
		return e
	}
	left := open.All()
	reached := slices.DeleteFunc(t.Folds.All(), func(f api.Span) bool { return slices.Contains(left, f) })
	t.Folds, t.gone = open, n
	t.turned(reflow.Cover(append(reached, x)))
	return api.OK
}

// splice removes inlays, and adds others at places of runes.
func (t *turn) splice(remove []int, add []api.Inlay) api.Errno {
	then, e := t.Inlays.Splice(remove, add)
	if e != api.OK {
		return e
	}
	var at []api.Span
	for _, x := range t.Inlays.All() {
		if slices.Contains(remove, x.ID) {
			at = append(at, api.Span{From: x.At, To: x.At})
		}
	}
	for _, x := range add {
		at = append(at, api.Span{From: x.At, To: x.At})
	}
	t.Inlays = then
	t.turned(reflow.Cover(at))
	return api.OK
}
