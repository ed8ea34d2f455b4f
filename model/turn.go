package model

import (
	"slices"

	"bodkin/api"
	"bodkin/batch"
	"bodkin/history"
	"bodkin/patch"
	"bodkin/rope"
)

// span is the places between two bytes.
func (m *Model) span(a, b int) (api.Span, api.Errno) {
	from, e := m.text.RuneAt(a)
	if e != api.OK {
		return api.Span{}, e
	}
	to, e := m.text.RuneAt(b)
	return api.Span{From: from, To: to}, e
}

// placed are edits at places of runes.
func (m *Model) placed(l []api.Edit) ([]api.Edit, api.Errno) {
	if len(l) > api.MaxEdits {
		return nil, api.ErrLong
	}
	at := slices.Clone(l)
	for i, x := range at {
		own, e := m.span(x.From, x.To)
		if e != api.OK {
			return nil, e
		}
		at[i].From, at[i].To = own.From, own.To
	}
	return at, api.OK
}

// edit applies edits at bytes.
func (m *Model) edit(l []api.Edit) api.Errno {
	forth, e := m.placed(l)
	if e != api.OK {
		return e
	}
	back, e := batch.Invert(m.text, forth)
	if e != api.OK {
		return e
	}
	if e := m.past.Push(history.Step{Back: back, Forth: forth}); e != api.OK {
		return e
	}
	m.text, m.sets = m.behind(forth)
	m.undone = nil // there is nothing any more that could be done again
	return api.OK
}

// behind is the text behind a batch that is right for it, and the sets shifted by its patch. There is no error: of a right batch the patch is normal, and the text no longer than one may be.
func (m *Model) behind(l []api.Edit) (*rope.Rope, sets) {
	text, _ := batch.Apply(m.text, l)
	p := patch.Of(l)
	in, _ := m.sets.inlays.Shift(p)
	shut, _ := m.sets.folds.Shift(p)
	return text, sets{in, shut}
}

// undo undoes the last step that can be undone.
func (m *Model) undo() api.Errno {
	l, e := m.past.Undo()
	if e != api.OK {
		return e
	}
	m.undone = append(m.undone, m.sets)
	m.text, m.sets = m.behind(l)
	return api.OK
}

// redo does the step again that was undone last.
func (m *Model) redo() api.Errno {
	l, e := m.past.Redo()
	if e != api.OK {
		return e
	}
	m.text, m.sets = m.behind(l)
	if top := len(m.undone) - 1; top >= 0 {
		m.sets = m.undone[top]
		m.undone = slices.Delete(m.undone, top, top+1)
	}
	return api.OK
}

// turned has other inlays and folds. Those that there were when steps were undone are there no more when these are done again.
func (m *Model) turned(s sets) { m.sets, m.undone = s, nil }

// fold adds a fold between bytes.
func (m *Model) fold(a, b int) api.Errno {
	x, e := m.span(a, b)
	if e != api.OK {
		return e
	}
	shut, e := m.sets.folds.Add(x)
	if e != api.OK {
		return e
	}
	m.turned(sets{m.sets.inlays, shut})
	return api.OK
}

// unfold removes the folds at bytes, and tells how many these were.
func (m *Model) unfold(a, b int) (int, api.Errno) {
	x, e := m.span(a, b)
	if e != api.OK {
		return 0, e
	}
	shut, n, e := m.sets.folds.Remove(x)
	if e != api.OK {
		return 0, e
	}
	m.turned(sets{m.sets.inlays, shut})
	return n, api.OK
}

// splice removes inlays, and adds others at places of runes.
func (m *Model) splice(remove []int, add []api.Inlay) api.Errno {
	in, e := m.sets.inlays.Splice(remove, add)
	if e != api.OK {
		return e
	}
	m.turned(sets{in, m.sets.folds})
	return api.OK
}
