package ops_test

import (
	"math"
	"slices"
	"testing"
	"unicode/utf8"

	"bodkin/api"
	"bodkin/folds"
	"bodkin/inlays"
	"bodkin/layout"
	"bodkin/model"
	"bodkin/ops"
	"bodkin/rope"
	"bodkin/state"
)

// mix is a number from 0 to below n that is hard to foresee and ever the same.
func mix(seed, n int) int {
	x := uint64(seed)*0x9e3779b97f4a7c15 + 0x632be59bd9b4e019
	x ^= x >> 29
	x *= 0xbf58476d1ce4e5b9
	x ^= x >> 32
	return int(x % uint64(n))
}

// span is the places from one on, up to another one.
func span(from, to int) api.Span { return api.Span{From: from, To: to} }

// list are spans, told by their ends.
func list(ends ...int) []api.Span {
	var l []api.Span
	for i := 0; i < len(ends); i += 2 {
		l = append(l, span(ends[i], ends[i+1]))
	}
	return l
}

// rows is a row patch of the rows from one on, up to another one, and up to a third one then.
func rows(from, to, then int) api.RowPatch {
	return api.RowPatch{OldFrom: from, OldTo: to, NewFrom: from, NewTo: then}
}

// partsOf are parts of a text, inlays and folds.
func partsOf(t *testing.T, s string, l []api.Inlay, f []api.Span, tab, width int) state.Parts {
	t.Helper()
	r, e := rope.New(s)
	if e != api.OK {
		t.Fatalf("rope.New: %v", e)
	}
	in, e := inlays.New(r.Runes(), l)
	if e != api.OK {
		t.Fatalf("inlays.New(%d, %v): %v", r.Runes(), l, e)
	}
	shut, e := folds.New(r.Runes(), f)
	if e != api.OK {
		t.Fatalf("folds.New(%d, %v): %v", r.Runes(), f, e)
	}
	return state.Parts{Text: r, Inlays: in, Folds: shut, Tab: tab, Width: width}
}

// made is a state of parts that are right.
func made(t *testing.T, p state.Parts) *state.State {
	t.Helper()
	s, e := state.New(p)
	if e != api.OK {
		t.Fatalf("New(%v): %v", p, e)
	}
	return s
}

// byteAt is how many bytes are ahead of a place of a clean text.
func byteAt(s string, at int) int { return len(string([]rune(s)[:at])) }

// modelOf is a model of parts.
func modelOf(t *testing.T, p state.Parts) *model.Model {
	t.Helper()
	s := p.Text.Text()
	m, e := model.New(s, p.Tab, p.Width)
	if e != api.OK {
		t.Fatalf("model.New: %v", e)
	}
	in := p.Inlays.All()
	for i, x := range in {
		in[i].At = byteAt(s, x.At)
	}
	l := []api.Op{{Kind: api.DoInlay, Add: in}}
	for _, x := range p.Folds.All() {
		l = append(l, api.Op{Kind: api.DoFold, A: byteAt(s, x.From), B: byteAt(s, x.To)})
	}
	for _, o := range l {
		if r := m.Do(o); r.Err != api.OK {
			t.Fatalf("%v: %v", o, r.Err)
		}
	}
	return m
}

// turnedBy is what an operation turns, by the words of the document; delta is by how much the text has grown.
func turnedBy(p state.Parts, o api.Op, delta int) (api.Span, api.Span) {
	s, n := p.Text.Text(), p.Text.Runes()
	place := func(b int) int { return utf8.RuneCountInString(s[:b]) }
	from, to := math.MaxInt, math.MinInt
	reach := func(a, b int) { from, to = min(from, a), max(to, b) }
	switch o.Kind {
	case api.DoEdit:
		for _, x := range o.Edits {
			if x.From < x.To || x.Text != "" {
				reach(place(x.From), place(x.To))
			}
		}
		if from > to {
			reach(0, n)
		}
	case api.DoFold:
		reach(place(o.A), place(o.B))
	case api.DoUnfold:
		a, b := place(o.A), place(o.B)
		reach(a, b)
		for _, f := range p.Folds.All() {
			if !(f.From > b || f.To < a) {
				reach(f.From, f.To)
			}
		}
	case api.DoInlay:
		for _, x := range p.Inlays.All() {
			if slices.Contains(o.Remove, x.ID) {
				reach(x.At, x.At)
			}
		}
		for _, x := range o.Add {
			reach(place(x.At), place(x.At))
		}
	}
	if from > to {
		return api.Span{}, api.Span{}
	}
	return span(from, to), span(from, to+delta)
}

// stepOf is the step of edits at bytes, by the words of the document.
func stepOf(s string, l []api.Edit) (back, forth []api.Edit) {
	further := 0
	for _, x := range l {
		from, to, n := utf8.RuneCountInString(s[:x.From]), utf8.RuneCountInString(s[:x.To]), utf8.RuneCountInString(x.Text)
		forth = append(forth, api.Edit{From: from, To: to, Text: x.Text})
		back = append(back, api.Edit{From: from + further, To: from + further + n, Text: s[x.From:x.To]})
		further += n - (to - from)
	}
	return back, forth
}

// across tells whether one of some spans is on both sides of a place.
func across(l []api.Span, at int) bool {
	return slices.ContainsFunc(l, func(x api.Span) bool { return x.From < at && at < x.To })
}

// widened is what was turned, widened: at either end it goes on place by place as long as something hidden is on both sides of it.
func widened(s, p state.Parts, old, now api.Span) (api.Span, api.Span) {
	was, is := s.Folds.Hidden(), p.Folds.Hidden()
	for across(was, old.From) || across(is, now.From) {
		old.From--
		now.From--
	}
	for across(was, old.To) || across(is, now.To) {
		old.To++
		now.To++
	}
	return old, now
}

// alike tells whether two rows are shown alike.
func alike(a, b api.Row) bool {
	same := func(x, y api.Cell) bool { return x.Rune == y.Rune && x.Kind == y.Kind && x.Width == y.Width }
	return slices.EqualFunc(a.Cells, b.Cells, same) && a.Wrapped == b.Wrapped && a.Folded == b.Folded && a.Width == b.Width
}

// same tells whether two rows are the same.
func same(a, b api.Row) bool {
	return slices.Equal(a.Cells, b.Cells) && a.Start == b.Start && a.End == b.End && a.Buffer == b.Buffer && a.Wrapped == b.Wrapped && a.Folded == b.Folded && a.Width == b.Width
}

// linesRows are the first row of the line of a place, and what is behind the last row of another one's.
func linesRows(all []api.Row, x api.Span) (int, int) {
	from, to := 0, 0
	for i, r := range all {
		if r.Wrapped {
			continue
		}
		if r.Start <= x.From {
			from = i
		}
		if r.Start <= x.To {
			to = i
		}
	}
	to++
	for to < len(all) && all[to].Wrapped {
		to++
	}
	return from, to
}

// leastOf is the least row patch of some lines' rows, ahead of which there are as many before and then.
func leastOf(before, then []api.Row, ahead int) api.RowPatch {
	from := 0
	for from < len(before) && from < len(then) && alike(before[from], then[from]) {
		from++
	}
	n, m := len(before), len(then)
	for n > from && m > from && alike(before[n-1], then[m-1]) {
		n--
		m--
	}
	return rows(ahead+from, ahead+n, ahead+m)
}

// patchOf is the row patch of what was turned.
func patchOf(was, is state.Parts, before, then []api.Row, old, now api.Span) api.RowPatch {
	if was.Tab != is.Tab || was.Width != is.Width {
		return leastOf(before, then, 0)
	}
	old, now = widened(was, is, old, now)
	from, to := linesRows(before, old)
	_, end := linesRows(then, now)
	return leastOf(before[from:to], then[from:end], from)
}

// isSound tells whether a row patch is sound.
func isSound(before, then []api.Row, p api.RowPatch) bool {
	n, m := len(before), len(then)
	if p.OldFrom != p.NewFrom || p.OldFrom < 0 || p.OldFrom > p.OldTo || p.OldTo > n || p.NewFrom > p.NewTo || p.NewTo > m || n-p.OldTo != m-p.NewTo {
		return false
	}
	return slices.EqualFunc(before[:p.OldFrom], then[:p.NewFrom], alike) && slices.EqualFunc(before[p.OldTo:], then[p.NewTo:], alike)
}

// allRows are all rows of a state's parts, from nothing.
func allRows(t *testing.T, s *state.State) []api.Row {
	t.Helper()
	l, e := layout.Rows(s.View())
	if e != api.OK {
		t.Fatalf("layout.Rows: %v", e)
	}
	return l
}

// holdParts tells what is unlike in a state and in a model; 31.3.
func holdParts(t *testing.T, s *state.State, m *model.Model) {
	t.Helper()
	p := s.Parts()
	if p.Text.Text() != m.Text() || !slices.Equal(p.Inlays.All(), m.Inlays()) || !slices.Equal(p.Folds.All(), m.Folds()) || p.Tab != m.Tab() || p.Width != m.Width() {
		t.Fatalf("%q, %v, %v, %d, %d, not %q, %v, %v, %d, %d", p.Text.Text(), p.Inlays.All(), p.Folds.All(), p.Tab, p.Width, m.Text(), m.Inlays(), m.Folds(), m.Tab(), m.Width())
	}
	if !s.Sound() {
		t.Fatalf("%q, %v, %v: the maps are not right", p.Text.Text(), p.Inlays.All(), p.Folds.All())
	}
	l, e := s.Rows(0, s.Maps().Flow.Sum().Rows)
	if e != api.OK || !slices.EqualFunc(l, m.Rows(), same) {
		t.Fatalf("%q, %v, %v: rows %v, %v", p.Text.Text(), p.Inlays.All(), p.Folds.All(), e, l)
	}
}

// hold does an operation to a state, and tells what is wrong with what is done; 31.1, 31.3, 31.4.
func hold(t *testing.T, s *state.State, o api.Op) (ops.Done, api.Errno) {
	t.Helper()
	was, before, m := s.Parts(), allRows(t, s), modelOf(t, s.Parts())
	want := m.Do(o)
	d, e := ops.Do(s, o)
	tell := func(what string, more ...any) {
		t.Helper()
		t.Fatalf("%v of %q, %v, %v, %d, %d: %s %v", o, was.Text.Text(), was.Inlays.All(), was.Folds.All(), was.Tab, was.Width, what, more)
	}
	if e != want.Err || d.N != want.N {
		tell("told", e, d.N, "not", want.Err, want.N)
	}
	if s.Parts() != was || !s.Sound() || !slices.EqualFunc(allRows(t, s), before, same) {
		tell("the state that was is turned")
	}
	if e != api.OK {
		holdNone(t, d)
		return d, e
	}
	holdParts(t, d.State, m)
	then, is := m.Rows(), d.State.Parts()
	old, now := turnedBy(was, o, is.Text.Runes()-was.Text.Runes())
	if p := patchOf(was, is, before, then, old, now); d.Patch != p {
		tell("patch", d.Patch, "not", p)
	}
	if !isSound(before, then, d.Patch) {
		tell("not sound", d.Patch)
	}
	var back, forth []api.Edit
	if o.Kind == api.DoEdit {
		back, forth = stepOf(was.Text.Text(), o.Edits)
	}
	if !slices.Equal(d.Step.Back, back) || !slices.Equal(d.Step.Forth, forth) {
		tell("step", d.Step, "not", back, forth)
	}
	return d, e
}

// holdNone tells what is told that should not be.
func holdNone(t *testing.T, d ops.Done) {
	t.Helper()
	if d.State != nil || d.Patch != (api.RowPatch{}) || d.N != 0 || len(d.Step.Back) > 0 || len(d.Step.Forth) > 0 {
		t.Fatalf("beside an error: %v", d)
	}
}

// holdApply applies edits at bytes as a batch, and tells what is unlike in what DoEdit does; 31.2.
func holdApply(t *testing.T, s *state.State, l []api.Edit) {
	t.Helper()
	text := s.Parts().Text.Text()
	_, forth := stepOf(text, l)
	d, e := ops.Do(s, api.Op{Kind: api.DoEdit, Edits: l})
	a, f := ops.Apply(s, forth)
	if e != f {
		t.Fatalf("%v of %q: Apply %v, Do %v", l, text, f, e)
	}
	if e != api.OK {
		holdNone(t, a)
		return
	}
	p, q := a.State.Parts(), d.State.Parts()
	if p.Text.Text() != q.Text.Text() || !slices.Equal(p.Inlays.All(), q.Inlays.All()) || !slices.Equal(p.Folds.All(), q.Folds.All()) || p.Tab != q.Tab || p.Width != q.Width || !a.State.Sound() {
		t.Fatalf("%v of %q: Apply makes %q, %v, %v", l, text, p.Text.Text(), p.Inlays.All(), p.Folds.All())
	}
	if a.Patch != d.Patch || a.N != 0 || !slices.Equal(a.Step.Back, d.Step.Back) || !slices.Equal(a.Step.Forth, d.Step.Forth) {
		t.Fatalf("%v of %q: Apply tells %v, %v, Do %v, %v", l, text, a.Patch, a.Step, d.Patch, d.Step)
	}
}
