package display_test

import (
	"slices"
	"testing"

	"bodkin/api"
	"bodkin/display"
	"bodkin/history"
	"bodkin/model"
	"bodkin/ops"
	"bodkin/state"
)

// mix is a number from 0 to below n that is hard to foresee and ever the same.
func mix(seed, n int) int {
	x := uint64(seed)*0x9e3779b97f4a7c15 + 0x632be59bd9b4e019
	x ^= x >> 29
	x *= 0xbf58476d1ce4e5b9
	x ^= x >> 32
	return int(x % uint64(n))
}

// like is what a display is held against: a model, and what tells which row patch an operation has to have.
type like struct {
	m      *model.Model
	steps  []history.Step
	undone []undone
}

// undone is a step that was undone; other tells whether inlays or folds came or went since.
type undone struct {
	step  history.Step
	other bool
}

// rows is a row patch of the rows from one on, up to another one, and up to a third one then.
func rows(from, to, then int) api.RowPatch {
	return api.RowPatch{OldFrom: from, OldTo: to, NewFrom: from, NewTo: then}
}

// alike tells whether two rows are shown alike.
func alike(a, b api.Row) bool {
	same := func(x, y api.Cell) bool { return x.Rune == y.Rune && x.Kind == y.Kind && x.Width == y.Width }
	return slices.EqualFunc(a.Cells, b.Cells, same) && a.Wrapped == b.Wrapped && a.Folded == b.Folded && a.Width == b.Width
}

// same tells whether two rows are the same.
func same(a, b api.Row) bool {
	return slices.Equal(a.Cells, b.Cells) && a.Start == b.Start && a.End == b.End && a.Buffer == b.Buffer && a.Wrapped == b.Wrapped && a.Folded == b.Folded && a.Width == b.Width
}

// leastOf is the least row patch of all rows.
func leastOf(before, then []api.Row) api.RowPatch {
	from := 0
	for from < len(before) && from < len(then) && alike(before[from], then[from]) {
		from++
	}
	n, m := len(before), len(then)
	for n > from && m > from && alike(before[n-1], then[m-1]) {
		n--
		m--
	}
	return rows(from, n, m)
}

// isSound tells whether a row patch is sound.
func isSound(before, then []api.Row, p api.RowPatch) bool {
	n, m := len(before), len(then)
	if p.OldFrom != p.NewFrom || p.OldFrom < 0 || p.OldFrom > p.OldTo || p.OldTo > n || p.NewFrom > p.NewTo || p.NewTo > m || n-p.OldTo != m-p.NewTo {
		return false
	}
	return slices.EqualFunc(before[:p.OldFrom], then[:p.NewFrom], alike) && slices.EqualFunc(before[p.OldTo:], then[p.NewTo:], alike)
}

// top takes the top off a list.
func top[T any](l *[]T) (T, bool) {
	if len(*l) == 0 {
		var none T
		return none, false
	}
	x := (*l)[len(*l)-1]
	*l = (*l)[:len(*l)-1]
	return x, true
}

// push puts a step on top of those that can be undone.
func (k *like) push(s history.Step) {
	k.steps = append(k.steps, s)
	k.steps = k.steps[max(0, len(k.steps)-100):]
}

// do does an operation to the model, and tells what a display, of that state and those rows, has to tell, by the words of the document.
func (k *like) do(s *state.State, before []api.Row, o api.Op) api.Reply {
	want := k.m.Do(o)
	want.Patch = api.RowPatch{}
	if want.Err != api.OK {
		return want
	}
	switch o.Kind {
	case api.DoUndo:
		step, _ := top(&k.steps)
		k.undone = append(k.undone, undone{step: step})
		d, _ := ops.Apply(s, step.Back)
		want.Patch = d.Patch
	case api.DoRedo:
		u, _ := top(&k.undone)
		k.push(u.step)
		d, _ := ops.Apply(s, u.step.Forth)
		want.Patch = d.Patch
		if !u.other {
			want.Patch = leastOf(before, k.m.Rows())
		}
	default:
		d, _ := ops.Do(s, o)
		want.Patch = d.Patch
		switch o.Kind {
		case api.DoEdit:
			k.push(d.Step)
			k.undone = nil
		case api.DoFold, api.DoUnfold, api.DoInlay:
			for i := range k.undone {
				k.undone[i].other = true
			}
		}
	}
	return want
}

// both are a display, and what it is held against.
func both(t *testing.T, text string, tab, width int) (*display.Display, *like) {
	t.Helper()
	d, e := display.New(text, tab, width)
	if e != api.OK || d == nil {
		t.Fatalf("New(%q, %d, %d): %v", text, tab, width, e)
	}
	m, e := model.New(text, tab, width)
	if e != api.OK {
		t.Fatalf("model.New: %v", e)
	}
	k := &like{m: m}
	hold(t, d, k)
	return d, k
}

// rowsOf are all rows of a state, by its maps.
func rowsOf(t *testing.T, s *state.State) []api.Row {
	t.Helper()
	l, e := s.Rows(0, s.Maps().Flow.Sum().Rows)
	if e != api.OK {
		t.Fatalf("Rows: %v", e)
	}
	return l
}

// hold tells what a display has that it should not have; 32.2.
func hold(t *testing.T, d *display.Display, k *like) {
	t.Helper()
	p, m := d.State().Parts(), k.m
	if p.Text.Text() != m.Text() || !slices.Equal(p.Inlays.All(), m.Inlays()) || !slices.Equal(p.Folds.All(), m.Folds()) || p.Tab != m.Tab() || p.Width != m.Width() {
		t.Fatalf("%q, %v, %v, %d, %d, not %q, %v, %v, %d, %d", p.Text.Text(), p.Inlays.All(), p.Folds.All(), p.Tab, p.Width, m.Text(), m.Inlays(), m.Folds(), m.Tab(), m.Width())
	}
	if !d.State().Sound() {
		t.Fatalf("%q, %v, %v: the maps are not right", p.Text.Text(), p.Inlays.All(), p.Folds.All())
	}
	if l := rowsOf(t, d.State()); !slices.EqualFunc(l, m.Rows(), same) {
		t.Fatalf("%q, %v, %v: rows %v, not %v", p.Text.Text(), p.Inlays.All(), p.Folds.All(), l, m.Rows())
	}
	if a, b := d.Steps(); a != len(k.steps) || b != len(k.undone) {
		t.Fatalf("Steps: %d, %d, not %d, %d", a, b, len(k.steps), len(k.undone))
	}
}

// play does an operation to both, and tells what is wrong with what is told; 32.1 to 32.4.
func play(t *testing.T, d *display.Display, k *like, o api.Op) api.Reply {
	t.Helper()
	s := d.State()
	was, before := s.Parts(), rowsOf(t, s)
	want := k.do(s, before, o)
	r := d.Do(o)
	if r != want {
		t.Fatalf("Do(%v) of %q, %v, %v: %v, not %v", o, was.Text.Text(), was.Inlays.All(), was.Folds.All(), r, want)
	}
	if r.Err == api.OK && !isSound(before, rowsOf(t, d.State()), r.Patch) {
		t.Fatalf("Do(%v) of %q, %v, %v: %v is not sound", o, was.Text.Text(), was.Inlays.All(), was.Folds.All(), r.Patch)
	}
	if r.Err != api.OK && d.State() != s {
		t.Fatalf("Do(%v) of %q: another state beside %v", o, was.Text.Text(), r.Err)
	}
	if s.Parts() != was || !slices.EqualFunc(rowsOf(t, s), before, same) {
		t.Fatalf("Do(%v) of %q: the state that was is turned", o, was.Text.Text())
	}
	return r
}
