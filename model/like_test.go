package model_test

import (
	"cmp"
	"slices"
	"strings"
	"testing"
	"unicode/utf8"

	"bodkin/api"
	"bodkin/folds"
	"bodkin/inlays"
	"bodkin/layout"
	"bodkin/model"
	"bodkin/rope"
	"bodkin/source"
	"bodkin/width"
)

// stood is a rune with a name, by which it is followed from text to text.
type stood struct {
	r    rune
	name int
}

// like is what a model is held against: each operation is done to it by the document's words.
type like struct {
	text       []stood
	names      int // how many runes have had a name
	inlays     []api.Inlay
	folds      []api.Span
	steps      [][2][]api.Edit // back and forth
	undone     []undone
	tab, width int
}

// undone is a step that was undone, and what there was then; other tells whether inlays or folds came or went since.
type undone struct {
	step   [2][]api.Edit
	inlays []api.Inlay
	folds  []api.Span
	other  bool
}

func newLike(text string, tab, width int) *like {
	k := &like{tab: tab, width: width}
	k.text = k.named(text)
	return k
}

// named are a text's runes, with names of their own.
func (k *like) named(s string) []stood {
	var l []stood
	for _, r := range s {
		k.names++
		l = append(l, stood{r, k.names})
	}
	return l
}

// plain is the text of some runes.
func plain(l []stood) string {
	s := ""
	for _, x := range l {
		s += string(x.r)
	}
	return s
}

// place is how many runes are ahead of a byte.
func (k *like) place(at int) (int, api.Errno) {
	b := 0
	for i, x := range k.text {
		if b == at {
			return i, api.OK
		}
		if b += utf8.RuneLen(x.r); b > at && at >= 0 {
			return 0, api.ErrMid
		}
	}
	if b == at {
		return len(k.text), api.OK
	}
	return 0, api.ErrArg
}

// span are the places of two bytes.
func (k *like) span(a, b int) (api.Span, api.Errno) {
	from, e := k.place(a)
	if e != api.OK {
		return api.Span{}, e
	}
	to, e := k.place(b)
	return api.Span{From: from, To: to}, e
}

// do does an operation: its error, and how many folds it has removed.
func (k *like) do(o api.Op) (int, api.Errno) {
	switch o.Kind {
	case 1:
		return 0, k.edit(o.Edits)
	case 2:
		return 0, k.fold(o.A, o.B)
	case 3:
		return k.unfold(o.A, o.B)
	case 4:
		return 0, k.splice(o.Remove, o.Add)
	case 5:
		if o.A < 0 || o.A > 200 {
			return 0, api.ErrArg
		}
		k.width = o.A
		return 0, api.OK
	case 6:
		if o.A < 1 || o.A > 16 {
			return 0, api.ErrArg
		}
		k.tab = o.A
		return 0, api.OK
	case 7:
		return 0, k.undo()
	case 8:
		return 0, k.redo()
	}
	return 0, api.ErrForm
}

func (k *like) edit(l []api.Edit) api.Errno {
	if len(l) > 64 {
		return api.ErrLong
	}
	var forth, back []api.Edit
	for _, x := range l {
		at, e := k.span(x.From, x.To)
		if e != api.OK {
			return e
		}
		forth = append(forth, api.Edit{From: at.From, To: at.To, Text: x.Text})
	}
	ahead, further := 0, 0
	for _, x := range forth {
		if x.To < x.From {
			return api.ErrArg
		}
		if x.From < ahead {
			return api.ErrOrder
		}
		n := utf8.RuneCountInString(x.Text)
		back = append(back, api.Edit{From: x.From + further, To: x.From + further + n, Text: plain(k.text[x.From:x.To])})
		ahead, further = x.To, further+n-(x.To-x.From)
	}
	if len(k.text)+further > 20000 {
		return api.ErrFull
	}
	k.apply(forth)
	k.steps = append(k.steps, [2][]api.Edit{back, forth})
	k.steps = k.steps[max(0, len(k.steps)-100):]
	k.undone = nil
	return api.OK
}

// apply puts texts in the place of others; inlays and folds go along.
func (k *like) apply(l []api.Edit) {
	var is []stood
	end := 0
	for _, x := range l {
		is = slices.Concat(is, k.text[end:x.From], k.named(x.Text))
		end = x.To
	}
	is = append(is, k.text[end:]...)
	there := map[int]int{}
	for i, x := range is {
		there[x.name] = i
	}
	// left and right are where a place goes: what is next to it of what is kept stays next to it.
	left := func(at int) int {
		for at--; at >= 0; at-- {
			if i, ok := there[k.text[at].name]; ok {
				return i + 1
			}
		}
		return 0
	}
	right := func(at int) int {
		for ; at < len(k.text); at++ {
			if i, ok := there[k.text[at].name]; ok {
				return i
			}
		}
		return len(is)
	}
	k.inlays, k.folds = slices.Clone(k.inlays), slices.Clone(k.folds)
	for i, x := range k.inlays {
		k.inlays[i].At = [2]func(int) int{left, right}[x.Bias](x.At)
	}
	for i, x := range k.folds {
		k.folds[i] = api.Span{From: right(x.From), To: left(x.To)}
	}
	k.folds = slices.DeleteFunc(k.folds, func(x api.Span) bool { return x.From >= x.To })
	k.sort()
	k.folds = slices.Compact(k.folds)
	k.text = is
}

// sort puts inlays and folds into their order.
func (k *like) sort() {
	slices.SortFunc(k.inlays, func(a, b api.Inlay) int {
		return cmp.Or(cmp.Compare(a.At, b.At), cmp.Compare(a.Key, b.Key), cmp.Compare(a.ID, b.ID))
	})
	slices.SortFunc(k.folds, func(a, b api.Span) int {
		return cmp.Or(cmp.Compare(a.From, b.From), cmp.Compare(a.To, b.To))
	})
}

// turned marks that inlays or folds were turned.
func (k *like) turned() {
	k.sort()
	for i := range k.undone {
		k.undone[i].other = true
	}
}

func (k *like) fold(a, b int) api.Errno {
	x, e := k.span(a, b)
	switch {
	case e != api.OK:
		return e
	case len(k.folds) == 60:
		return api.ErrFull
	case x.From >= x.To:
		return api.ErrArg
	case slices.Contains(k.folds, x):
		return api.ErrSame
	}
	k.folds = append(slices.Clone(k.folds), x)
	k.turned()
	return api.OK
}

func (k *like) unfold(a, b int) (int, api.Errno) {
	x, e := k.span(a, b)
	if e != api.OK {
		return 0, e
	}
	if x.From > x.To {
		return 0, api.ErrArg
	}
	n := len(k.folds)
	k.folds = slices.DeleteFunc(slices.Clone(k.folds), func(f api.Span) bool { return !(f.From > x.To || f.To < x.From) })
	k.turned()
	return n - len(k.folds), api.OK
}

func (k *like) splice(remove []int, add []api.Inlay) api.Errno {
	if len(add) > 60 {
		return api.ErrFull
	}
	add = slices.Clone(add)
	for i, x := range add {
		at, e := k.place(x.At)
		if e != api.OK {
			return e
		}
		add[i].At = at
	}
	l := slices.Clone(k.inlays)
	for _, id := range remove {
		i := slices.IndexFunc(l, func(x api.Inlay) bool { return x.ID == id })
		if i < 0 {
			return api.ErrNone
		}
		l = slices.Delete(l, i, i+1)
	}
	if len(l)+len(add) > 60 {
		return api.ErrFull
	}
	for _, x := range add {
		n := utf8.RuneCountInString(x.Text)
		switch {
		case x.ID < 1 || x.Bias != 0 && x.Bias != 1:
			return api.ErrArg
		case n > 40:
			return api.ErrLong
		case n == 0 || strings.Contains(x.Text, "\n"):
			return api.ErrForm
		case slices.ContainsFunc(l, func(y api.Inlay) bool { return y.ID == x.ID }):
			return api.ErrSame
		}
		x.Text = string([]rune(x.Text))
		l = append(l, x)
	}
	k.inlays = l
	k.turned()
	return api.OK
}

func (k *like) undo() api.Errno {
	top := len(k.steps) - 1
	if top < 0 {
		return api.ErrNone
	}
	s := k.steps[top]
	k.steps = k.steps[:top]
	k.undone = append(k.undone, undone{step: s, inlays: k.inlays, folds: k.folds})
	k.apply(s[0])
	return api.OK
}

func (k *like) redo() api.Errno {
	top := len(k.undone) - 1
	if top < 0 {
		return api.ErrNone
	}
	u := k.undone[top]
	k.undone = k.undone[:top]
	k.steps = append(k.steps, u.step)
	k.apply(u.step[1])
	if !u.other {
		k.inlays, k.folds = u.inlays, u.folds
	}
	return api.OK
}

// rows are all rows.
func (k *like) rows() []api.Row {
	r, _ := rope.New(plain(k.text))
	in, _ := inlays.New(len(k.text), k.inlays)
	shut, _ := folds.New(len(k.text), k.folds)
	l, _ := layout.Rows(layout.View{Text: source.Text{Rope: r, Inlays: in, Hidden: shut.Hidden()}, Table: width.Plain(), Tab: k.tab, Width: k.width})
	return l
}

// sameRow tells whether two rows are the same.
func sameRow(a, b api.Row) bool {
	return slices.Equal(a.Cells, b.Cells) && a.Start == b.Start && a.End == b.End && a.Buffer == b.Buffer && a.Wrapped == b.Wrapped && a.Folded == b.Folded && a.Width == b.Width
}

// hold tells what a model has that it should not have.
func hold(t *testing.T, m *model.Model, k *like) {
	t.Helper()
	if s := m.Text(); s != plain(k.text) {
		t.Fatalf("Text: %q, not %q", s, plain(k.text))
	}
	if l := m.Inlays(); !slices.Equal(l, k.inlays) {
		t.Fatalf("Inlays of %q: %v, not %v", m.Text(), l, k.inlays)
	}
	if l := m.Folds(); !slices.Equal(l, k.folds) {
		t.Fatalf("Folds of %q: %v, not %v", m.Text(), l, k.folds)
	}
	if m.Tab() != k.tab || m.Width() != k.width {
		t.Fatalf("Tab %d, Width %d, not %d, %d", m.Tab(), m.Width(), k.tab, k.width)
	}
	if l := m.Rows(); len(l) == 0 || !slices.EqualFunc(l, k.rows(), sameRow) {
		t.Fatalf("Rows of %q: %v, not %v", m.Text(), l, k.rows())
	}
}

// play does an operation to both, and tells its error.
func play(t *testing.T, m *model.Model, k *like, o api.Op) api.Errno {
	t.Helper()
	n, e := k.do(o)
	if r := m.Do(o); r != (api.Reply{Err: e, N: n}) {
		t.Fatalf("Do(%v) of %q: %v, not %d, %v", o, m.Text(), r, n, e)
	}
	return e
}
