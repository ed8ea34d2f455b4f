package reflow_test

import (
	"math"
	"slices"
	"strings"
	"testing"

	"bodkin/api"
	"bodkin/flow"
	"bodkin/folds"
	"bodkin/inlays"
	"bodkin/layout"
	"bodkin/patch"
	"bodkin/reflow"
	"bodkin/rope"
	"bodkin/state"
)

// mix is a number from 0 to below n that is hard to foresee and ever the same.
func mix(seed, n int) int {
	x := uint64(seed)*0x9e3779b97f4a7c15 + 0x632be59bd9b4e019
	x ^= x >> 29
	x *= 0xbf58476d1ce4e5b9
	x ^= x >> 32
	return int(x % uint64(n))
}

// span is the places from one on, up to another one.
func span(from, to int) api.Span { return api.Span{From: from, To: to} }

// list are spans, told by their ends.
func list(ends ...int) []api.Span {
	var l []api.Span
	for i := 0; i < len(ends); i += 2 {
		l = append(l, span(ends[i], ends[i+1]))
	}
	return l
}

// rows is a row patch of the rows from one on, up to another one, and up to a third one then.
func rows(from, to, then int) api.RowPatch {
	return api.RowPatch{OldFrom: from, OldTo: to, NewFrom: from, NewTo: then}
}

// partsOf are parts of a text, inlays and folds.
func partsOf(t *testing.T, s string, l []api.Inlay, f []api.Span, tab, width int) state.Parts {
	t.Helper()
	r, e := rope.New(s)
	if e != api.OK {
		t.Fatalf("rope.New: %v", e)
	}
	in, e := inlays.New(r.Runes(), l)
	if e != api.OK {
		t.Fatalf("inlays.New(%d, %v): %v", r.Runes(), l, e)
	}
	shut, e := folds.New(r.Runes(), f)
	if e != api.OK {
		t.Fatalf("folds.New(%d, %v): %v", r.Runes(), f, e)
	}
	return state.Parts{Text: r, Inlays: in, Folds: shut, Tab: tab, Width: width}
}

// made is a state of parts that are right.
func made(t *testing.T, p state.Parts) *state.State {
	t.Helper()
	s, e := state.New(p)
	if e != api.OK {
		t.Fatalf("New(%v): %v", p, e)
	}
	return s
}

// edited are parts behind an edit, and what was turned by it.
func edited(t *testing.T, p state.Parts, from, to int, s string) (state.Parts, api.Span, api.Span) {
	t.Helper()
	c := patch.Change{Old: span(from, to), New: span(from, from+len([]rune(s)))}
	var e, f, g api.Errno
	p.Text, e = p.Text.Replace(from, to, s)
	var l []patch.Change
	if c.Old != c.New || from < to {
		l = append(l, c)
	}
	p.Inlays, f = p.Inlays.Shift(l)
	p.Folds, g = p.Folds.Shift(l)
	if e != api.OK || f != api.OK || g != api.OK {
		t.Fatalf("%d to %d by %q: %v, %v, %v", from, to, s, e, f, g)
	}
	return p, c.Old, c.New
}

// across tells whether one of some spans is on both sides of a place.
func across(l []api.Span, at int) bool {
	return slices.ContainsFunc(l, func(x api.Span) bool { return x.From < at && at < x.To })
}

// widened is what was turned, widened: at either end it goes on place by place as long as something hidden is on both sides of it.
func widened(s, p state.Parts, old, now api.Span) (api.Span, api.Span) {
	was, is := s.Folds.Hidden(), p.Folds.Hidden()
	for across(was, old.From) || across(is, now.From) {
		old.From--
		now.From--
	}
	for across(was, old.To) || across(is, now.To) {
		old.To++
		now.To++
	}
	return old, now
}

// outside are the inlays of parts that are not in a span, nor at its ends, and the hidden spans that are not within another one; what is behind is told as if the spans ended at 0.
func outside(p state.Parts, in, hid api.Span) ([]api.Inlay, []api.Span) {
	var l []api.Inlay
	for _, x := range p.Inlays.All() {
		if x.At > in.To {
			x.At += 1000 - in.To
		} else if x.At >= in.From {
			continue
		}
		l = append(l, x)
	}
	var h []api.Span
	for _, x := range p.Folds.Hidden() {
		if x.From >= hid.From && x.To <= hid.To {
			continue
		}
		if x.From >= hid.To {
			x.From += 1000 - hid.To
			x.To += 1000 - hid.To
		}
		h = append(h, x)
	}
	return l, h
}

// asItWas tells whether all else is as it was, by the words of the document.
func asItWas(s, p state.Parts, old, now api.Span) bool {
	a, b := []rune(s.Text.Text()), []rune(p.Text.Text())
	if !slices.Equal(a[:old.From], b[:now.From]) || !slices.Equal(a[old.To:], b[now.To:]) {
		return false
	}
	wide, then := widened(s, p, old, now)
	l, h := outside(s, old, wide)
	k, g := outside(p, now, then)
	return slices.Equal(l, k) && slices.Equal(h, g)
}

// alike tells whether two rows are shown alike.
func alike(a, b api.Row) bool {
	same := func(x, y api.Cell) bool { return x.Rune == y.Rune && x.Kind == y.Kind && x.Width == y.Width }
	return slices.EqualFunc(a.Cells, b.Cells, same) && a.Wrapped == b.Wrapped && a.Folded == b.Folded && a.Width == b.Width
}

// linesRows are the first row of the line of a place, and what is behind the last row of another one's.
func linesRows(all []api.Row, x api.Span) (int, int) {
	from, to := 0, 0
	for i, r := range all {
		if r.Wrapped {
			continue
		}
		if r.Start <= x.From {
			from = i
		}
		if r.Start <= x.To {
			to = i
		}
	}
	to++
	for to < len(all) && all[to].Wrapped {
		to++
	}
	return from, to
}

// leastOf is the least row patch of some lines' rows, ahead of which there are as many before and then.
func leastOf(before, then []api.Row, ahead int) api.RowPatch {
	from := 0
	for from < len(before) && from < len(then) && alike(before[from], then[from]) {
		from++
	}
	n, m := len(before), len(then)
	for n > from && m > from && alike(before[n-1], then[m-1]) {
		n--
		m--
	}
	return rows(ahead+from, ahead+n, ahead+m)
}

// allRows are all rows of parts, from nothing.
func allRows(t *testing.T, s *state.State) []api.Row {
	t.Helper()
	l, e := layout.Rows(s.View())
	if e != api.OK {
		t.Fatalf("layout.Rows: %v", e)
	}
	return l
}

// hold tells what is wrong with what a state, whose maps are right, is turned to; 29.1, 29.3, 29.4.
func hold(t *testing.T, s *state.State, p state.Parts, old, now api.Span) *state.State {
	t.Helper()
	was := s.Parts()
	then, got, e := reflow.Turn(s, p, old, now)
	tell := func(what string, more ...any) {
		t.Helper()
		t.Fatalf("%q, %v, %v, %d, %d to %q, %v, %v, %d, %d by %v, %v: %s %v", was.Text.Text(), was.Inlays.All(), was.Folds.All(), was.Tab, was.Width, p.Text.Text(), p.Inlays.All(), p.Folds.All(), p.Tab, p.Width, old, now, what, more)
	}
	if e != api.OK || then.Parts() != p {
		tell("Turn", e, then.Parts())
	}
	m, want := then.Maps(), made(t, p).Maps()
	if !slices.Equal(m.Weave.Pieces(), want.Weave.Pieces()) || !slices.Equal(m.Crease.Pieces(), want.Crease.Pieces()) || !slices.Equal(m.Flow.Lines(), want.Flow.Lines()) || !then.Sound() {
		tell("maps", m.Weave.Pieces(), m.Crease.Pieces(), m.Flow.Lines())
	}
	if s.Parts() != was || !s.Sound() {
		tell("the state that was is turned")
	}
	before, after := allRows(t, s), allRows(t, then)
	least := leastOf(before, after, 0)
	if was.Tab == p.Tab && was.Width == p.Width {
		a, b := widened(was, p, old, now)
		from, to := linesRows(before, a)
		first, last := linesRows(after, b)
		if from != first {
			tell("unlike many rows are ahead", from, first)
		}
		least = leastOf(before[from:to], after[first:last], from)
	}
	if got != least {
		tell("the patch is", got, "not", least)
	}
	holdSound(t, before, after, got)
	return then
}

// holdSound tells whether a row patch is not sound; 29.4.
func holdSound(t *testing.T, before, then []api.Row, p api.RowPatch) {
	t.Helper()
	n, m := len(before), len(then)
	if p.OldFrom != p.NewFrom || p.OldFrom < 0 || p.OldFrom > p.OldTo || p.OldTo > n || p.NewFrom > p.NewTo || p.NewTo > m || n-p.OldTo != m-p.NewTo {
		t.Fatalf("the patch %v of %d rows and %d", p, n, m)
	}
	if !slices.EqualFunc(before[:p.OldFrom], then[:p.NewFrom], alike) || !slices.EqualFunc(before[p.OldTo:], then[p.NewTo:], alike) {
		t.Fatalf("outside of the patch %v rows are unlike", p)
	}
}

// The example of the document.
func TestExample(t *testing.T) {
	s := made(t, partsOf(t, "ab\ncd", nil, nil, 4, 0))
	p, old, now := edited(t, s.Parts(), 4, 4, "x")
	then, got, e := reflow.Turn(s, p, old, now)
	if e != api.OK || got != rows(1, 2, 2) || !then.Sound() || then.Parts() != p {
		t.Errorf("Turn: %v, %v", got, e)
	}
}

// 29.1: row patches, one by one.
func TestPatches(t *testing.T) {
	// Six rows: "abc ", "de"; "f"; ""; "gh ", "ij".
	s := made(t, partsOf(t, "abc de\nf\n\ngh ij", nil, nil, 4, 4))
	for i, c := range []struct {
		from, to int
		text     string
		want     api.RowPatch
	}{
		{0, 0, "x", rows(0, 2, 2)},
		{0, 1, "x", rows(0, 1, 1)},
		{2, 3, "", rows(0, 1, 1)},
		{5, 6, "", rows(1, 2, 2)},
		{3, 4, "", rows(0, 2, 2)},
		{6, 6, " ", rows(1, 2, 2)},
		{6, 6, " wxyz", rows(1, 2, 3)},
		{6, 7, "", rows(1, 3, 2)},
		{7, 7, "\n", rows(2, 2, 3)},
		{8, 8, "\n", rows(3, 3, 4)},
		{8, 9, "", rows(3, 4, 3)},
		{9, 10, "", rows(3, 4, 3)},
		{6, 10, "", rows(1, 6, 3)},
		{0, 15, "", rows(0, 6, 1)},
		{15, 15, "\n", rows(6, 6, 7)},
		{15, 15, "k", rows(5, 6, 6)},
		{12, 13, " ", rows(6, 6, 6)},
		{2, 2, "", rows(2, 2, 2)},
		{9, 9, "", rows(4, 4, 4)},
		{3, 4, "\n", rows(0, 2, 2)},
		{0, 15, "abc de\nf\n\ngh ij", rows(6, 6, 6)},
	} {
		p, old, now := edited(t, s.Parts(), c.from, c.to, c.text)
		if _, got, e := reflow.Turn(s, p, old, now); got != c.want || e != api.OK {
			t.Errorf("%d: %d to %d by %q: %v, %v, not %v", i, c.from, c.to, c.text, got, e, c.want)
		}
		hold(t, s, p, old, now)
	}
}

// 29.1: of rows that are alike all that are laid out anew are looked at, and no others.
func TestAlikeRows(t *testing.T) {
	s := made(t, partsOf(t, "a\na\na\na\na", nil, nil, 4, 0))
	for _, c := range []struct {
		from, to int
		text     string
		want     api.RowPatch
	}{
		{2, 2, "a\n", rows(2, 2, 3)}, // ahead of the second line, which is laid out: it is alike
		{2, 4, "", rows(2, 3, 2)},
		{4, 4, "", rows(3, 3, 3)},
		{2, 6, "", rows(2, 4, 2)},
		{1, 3, "", rows(1, 2, 1)},
		{9, 9, "\na", rows(5, 5, 6)},
	} {
		p, old, now := edited(t, s.Parts(), c.from, c.to, c.text)
		if _, got, e := reflow.Turn(s, p, old, now); got != c.want || e != api.OK {
			t.Errorf("%d to %d by %q: %v, %v, not %v", c.from, c.to, c.text, got, e, c.want)
		}
		hold(t, s, p, old, now)
	}
}

// 29.1: folds and inlays that come and go, with what is hidden at both ends of what was turned.
func TestFoldsAndInlays(t *testing.T) {
	p := partsOf(t, "ab\ncd\nef\ngh\nij", []api.Inlay{{ID: 1, At: 4, Text: "xy"}}, nil, 4, 0)
	s := made(t, p)
	turn := func(folded []api.Span, in []api.Inlay, x api.Span, want api.RowPatch) *state.State {
		t.Helper()
		q := partsOf(t, p.Text.Text(), in, folded, 4, 0)
		then, got, e := reflow.Turn(s, q, x, x)
		if got != want || e != api.OK {
			t.Errorf("%v, %v by %v: %v, %v, not %v", folded, in, x, got, e, want)
		}
		hold(t, s, q, x, x)
		return then
	}
	in := p.Inlays.All()
	turn(list(4, 10), in, span(4, 10), rows(1, 4, 2))
	turn(list(4, 10), in, span(7, 7), rows(1, 4, 2)) // widened to the fold
	turn(list(4, 10), in, span(5, 9), rows(1, 4, 2))
	turn(list(5, 6, 8, 9), in, span(5, 9), rows(1, 4, 2))
	turn(list(0, 14), in, span(0, 14), rows(0, 5, 1))
	turn(nil, nil, span(4, 4), rows(1, 2, 2))
	turn(nil, append(in, api.Inlay{ID: 2, At: 3, Text: "z"}), span(3, 4), rows(1, 2, 2))
	turn(nil, append(in, api.Inlay{ID: 2, At: 14, Text: "z"}), span(14, 14), rows(4, 5, 5))
	turn(list(4, 5), in, span(4, 5), rows(1, 2, 2))
	s = turn(list(1, 4, 7, 10), in, span(1, 10), rows(0, 4, 2))
	turn(list(1, 4), in, span(9, 9), rows(1, 2, 3)) // widened to what was hidden
	turn(list(7, 10), in, span(2, 2), rows(0, 1, 2))
	turn(list(1, 4, 4, 7, 7, 10), in, span(4, 7), rows(0, 2, 1))
	turn(list(3, 8), in, span(2, 3), rows(0, 2, 3)) // there is more hidden then: it is widened over both, and over what was hidden
	turn(nil, in, span(1, 10), rows(0, 2, 4))
}

// 29.1: other sizes of tabs and rows: all may be unlike.
func TestSizes(t *testing.T) {
	p := partsOf(t, "a\tb\ncd ef\n\n\tg", []api.Inlay{{ID: 3, At: 5, Text: "uv"}}, list(0, 1), 4, 6)
	s := made(t, p)
	q := p
	q.Width = 0
	if _, got, e := reflow.Turn(s, q, api.Span{}, api.Span{}); e != api.OK || got != rows(1, 3, 2) {
		t.Errorf("of the width 0: %v, %v", got, e)
	}
	for _, tab := range []int{1, 4, 5, api.MaxTab} {
		for _, width := range []int{0, 1, 2, 6, 7, api.MaxWidth} {
			if tab == p.Tab && width == p.Width {
				continue
			}
			q.Tab, q.Width = tab, width
			for from := range p.Text.Runes() + 1 {
				hold(t, s, q, span(from, from), span(from, from))
			}
			for _, o := range []state.Parts{
				partsOf(t, "", nil, nil, tab, width),
				partsOf(t, "\n\n", []api.Inlay{{ID: 9, At: 1, Text: "w"}}, list(1, 2), tab, width),
				partsOf(t, strings.Repeat("zz\tz\n", 9), []api.Inlay{{ID: 3, At: 40, Text: "w"}}, list(3, 9, 20, 41), tab, width),
			} {
				hold(t, s, o, span(0, p.Text.Runes()), span(0, o.Text.Runes()))
				least := min(p.Text.Runes(), o.Text.Runes())
				hold(t, s, o, span(0, p.Text.Runes()-least), span(0, o.Text.Runes()-least))
				hold(t, s, o, span(least, p.Text.Runes()), span(least, o.Text.Runes()))
			}
		}
	}
}

// 29.2: the least span in which all are.
func TestCover(t *testing.T) {
	few, most := math.MinInt, math.MaxInt
	for _, c := range []struct {
		l    []api.Span
		want api.Span
	}{
		{nil, api.Span{}},
		{[]api.Span{}, api.Span{}},
		{list(3, 5), span(3, 5)},
		{list(5, 3), span(3, 5)},
		{list(4, 4), span(4, 4)},
		{list(3, 5, 8, 9), span(3, 9)},
		{list(8, 9, 3, 5), span(3, 9)},
		{list(3, 9, 4, 5), span(3, 9)},
		{list(4, 5, 9, 3), span(3, 9)},
		{list(4, 5, 2, 2), span(2, 5)},
		{list(4, 5, 7, 7), span(4, 7)},
		{list(9, 7, 1, 2, 5, 4), span(1, 9)},
		{list(-5, -3), span(-5, -3)},
		{list(-3, -5, -9, -9), span(-9, -3)},
		{list(0, 0, 6, 7), span(0, 7)},
		{list(most, few), span(few, most)},
		{list(most, most, few, few), span(few, most)},
	} {
		l := slices.Clone(c.l)
		if x := reflow.Cover(c.l); x != c.want || !slices.Equal(c.l, l) {
			t.Errorf("Cover(%v): %v, not %v", l, x, c.want)
		}
	}
}

// allTexts are all texts of n of some runes.
func allTexts(some string, n int) []string {
	all := []string{""}
	for range n {
		var more []string
		for _, s := range all {
			for _, r := range some {
				more = append(more, s+string(r))
			}
		}
		all = more
	}
	return all
}

// allFolds are all lists of up to two folds of n runes.
func allFolds(n int) [][]api.Span {
	all := [][]api.Span{nil}
	var one []api.Span
	for a := range n {
		for b := a + 1; b <= n; b++ {
			one = append(one, span(a, b))
		}
	}
	for i, x := range one {
		all = append(all, []api.Span{x})
		for _, y := range one[i+1:] {
			all = append(all, []api.Span{x, y})
		}
	}
	return all
}

// 29.1, 29.3 to 29.5: each edit of all small texts, whatever is folded in them, with inlays.
func TestEdits(t *testing.T) {
	seed := 0
	for n := range 5 {
		for _, s := range allTexts("a\n", n) {
			for _, f := range allFolds(n) {
				seed++
				if n == 4 && seed%4 > 0 {
					continue
				}
				l := []api.Inlay{{ID: 5, At: mix(seed, n+1), Bias: seed % 2, Text: "xy"}, {ID: 2, At: mix(seed+1, n+1), Bias: seed / 2 % 2, Text: "z"}}
				x := made(t, partsOf(t, s, l[:mix(seed+2, 3)], f, 4, mix(seed+3, 4)))
				holdEdits(t, x)
			}
		}
	}
}

// holdEdits tells what is wrong with what a state is turned to by each edit.
func holdEdits(t *testing.T, s *state.State) {
	t.Helper()
	p := s.Parts()
	for from := range p.Text.Runes() + 1 {
		for to := from; to <= p.Text.Runes(); to++ {
			for _, text := range []string{"", "b", "\n", "b\nc", "\n\n"} {
				q, old, now := edited(t, p, from, to, text)
				if !asItWas(p, q, old, now) {
					t.Fatalf("%q, %v: %d to %d by %q is an edit by which something else is turned", p.Text.Text(), p.Folds.All(), from, to, text)
				}
				hold(t, s, q, old, now)
				holdTight(t, s, q, old, now)
			}
		}
	}
}

// holdTight tells what is wrong with the row patch of an edit within one line of the buffer in which nothing is hidden, that has no break in it; 29.5.
func holdTight(t *testing.T, s *state.State, p state.Parts, old, now api.Span) {
	t.Helper()
	a, b := s.Parts().Text, p.Text
	gone, _ := a.Slice(old.From, old.To)
	come, _ := b.Slice(now.From, now.To)
	if strings.Contains(gone+come, "\n") {
		return
	}
	first, _ := a.Ahead(old.From)
	from, _ := a.Behind(first)
	end, e := a.Behind(first + 1)
	if e != api.OK {
		end = a.Runes()
	}
	if slices.ContainsFunc(s.Parts().Folds.Hidden(), func(x api.Span) bool { return x.From <= end && from <= x.To }) {
		return
	}
	_, got, _ := reflow.Turn(s, p, old, now)
	lo, hi := linesRows(allRows(t, s), old)
	_, then := linesRows(allRows(t, made(t, p)), now)
	if got.OldFrom < lo || got.OldTo > hi || got.NewFrom < lo || got.NewTo > then {
		t.Fatalf("%q, %v to %v: the patch %v is not within the rows %d to %d, %d", a.Text(), old, now, got, lo, hi, then)
	}
}

// 29.1, 29.3, 29.4: whatever texts, inlays and folds there are before and then, where all else is as it was.
func TestWhatever(t *testing.T) {
	var all []state.Parts
	for n := range 4 {
		for _, s := range allTexts("a\n", n) {
			for i, f := range allFolds(n) {
				var l []api.Inlay
				for at := range n + 1 {
					if mix(i+at+17*n+len(all), 3) == 0 {
						l = append(l, api.Inlay{ID: 1 + at, At: at, Text: "xyz"[at%2 : at%2+1]})
					}
				}
				all = append(all, partsOf(t, s, l, f, 4, n%3*2))
			}
		}
	}
	held, seed := 0, 0
	for i, p := range all {
		s := made(t, p)
		for k, q := range all {
			if seed++; mix(seed, 4) > 0 && i != k {
				continue
			}
			q.Width = p.Width
			for _, x := range turnedOf(p.Text.Runes(), q.Text.Runes()) {
				if asItWas(p, q, x[0], x[1]) {
					held++
					hold(t, s, q, x[0], x[1])
				}
			}
		}
	}
	if held < 10000 {
		t.Errorf("only %d are held", held)
	}
}

// turnedOf are all pairs of spans that fit buffers of n and m runes.
func turnedOf(n, m int) [][2]api.Span {
	var all [][2]api.Span
	for from := 0; from <= min(n, m); from++ {
		for behind := 0; behind <= min(n, m)-from; behind++ {
			all = append(all, [2]api.Span{span(from, n-behind), span(from, m-behind)})
		}
	}
	return all
}

// kinds are what longer texts are made of.
func kinds() []string {
	return []string{"a", "\n", "b c", "\u4e00", "\t", "\xff", "  ", "\n", "e\u0301", strings.Repeat("x", 30), "\n  de f"}
}

// textOf is some text.
func textOf(seed, n int) string {
	var b strings.Builder
	for k := range n {
		b.WriteString(kinds()[mix(seed*100+k, len(kinds()))])
	}
	return b.String()
}

// longParts are parts of a longer text of runes of all sizes, with inlays and folds.
func longParts(t *testing.T, seed int) state.Parts {
	t.Helper()
	s := textOf(seed, 5+mix(seed, 60))
	n := len([]rune(s))
	var l []api.Inlay
	var f []api.Span
	for id := range mix(seed+3, 9) {
		text := []string{"uv", "\t", "\u4e00", "w x", strings.Repeat("y", api.MaxInlay)}[mix(seed+id, 5)]
		l = append(l, api.Inlay{ID: id + 1, At: mix(seed*10+id, n+1), Bias: id % 2, Key: -id % 3, Text: text})
	}
	for k := range mix(seed+5, 7) {
		from := mix(seed*20+k, n)
		f = append(f, span(from, min(n, from+1+mix(seed*30+k, 9)+k)))
	}
	slices.SortFunc(f, func(a, b api.Span) int { return a.From - b.From })
	return partsOf(t, s, l, slices.Compact(f), 1+mix(seed+8, api.MaxTab), mix(seed+9, 3)*mix(seed+10, 40))
}

// step is what parts are turned to in a step of some kind, and what is turned by it.
func step(t *testing.T, p state.Parts, seed int) (state.Parts, api.Span, api.Span) {
	t.Helper()
	n := p.Text.Runes()
	from := mix(seed, n+1)
	to := min(n, from+mix(seed+1, 12))
	x := span(from, to)
	var e api.Errno
	q := p
	switch mix(seed+2, 6) {
	case 0:
		if q.Folds, e = p.Folds.Add(x); e != api.OK {
			return p, x, x
		}
	case 1:
		all := p.Folds.All()
		q.Folds, _, _ = p.Folds.Remove(x)
		x = reflow.Cover(append(all, x)) // of all folds, not only of those that go
	case 2:
		add := []api.Inlay{{ID: 1000 + seed, At: from, Bias: seed % 2, Text: "n\u4e00"}, {ID: 2000 + seed, At: to, Text: "o"}}
		if q.Inlays, e = p.Inlays.Splice(nil, add); e != api.OK {
			return p, x, x
		}
	case 3:
		l := p.Inlays.All()
		if len(l) == 0 {
			return p, x, x
		}
		gone := l[mix(seed+3, len(l))]
		q.Inlays, _ = p.Inlays.Splice([]int{gone.ID}, nil)
		x = span(gone.At, gone.At)
	default:
		return edited(t, p, from, to, textOf(seed+4, mix(seed+5, 5)))
	}
	return q, x, x
}

// 29.1, 29.3 to 29.5: longer texts, turned again and again.
func TestLong(t *testing.T) {
	for seed := range 60 {
		s := made(t, longParts(t, seed))
		for k := range 25 {
			q, old, now := step(t, s.Parts(), 1000*seed+10*k)
			if !asItWas(s.Parts(), q, old, now) {
				t.Fatalf("%d, %d: something else is turned", seed, k)
			}
			before := s
			s = hold(t, before, q, old, now)
			holdTight(t, before, q, old, now)
		}
	}
}

// 29.1: what was turned may be told as more than what is unlike.
func TestMoreThanTurned(t *testing.T) {
	for seed := range 200 {
		p := longParts(t, seed)
		q, old, now := step(t, p, 50*seed+3)
		ahead, behind := mix(seed+20, old.From+1), mix(seed+21, p.Text.Runes()-old.To+1)
		hold(t, made(t, p), q, span(old.From-ahead, old.To+behind), span(now.From-ahead, now.To+behind))
		hold(t, made(t, p), q, span(0, p.Text.Runes()), span(0, q.Text.Runes()))
	}
}

// 29.1: as many lines as there may be, and one that is as long as it may be.
func TestMost(t *testing.T) {
	for _, s := range []string{strings.Repeat("\n", api.MaxText), strings.Repeat("ab ", api.MaxText/3), strings.Repeat("a\tb\n", api.MaxText/4)} {
		x := made(t, partsOf(t, s, nil, list(100, 200), 4, 20))
		for _, c := range []struct {
			from, to int
			text     string
		}{{0, 1, "\n"}, {50, 60, "c"}, {150, 19000, ""}, {19990, 19998, "\n\n"}} {
			p, old, now := edited(t, x.Parts(), c.from, c.to, c.text)
			hold(t, x, p, old, now)
		}
		p := x.Parts()
		p.Width = api.MaxWidth
		hold(t, x, p, api.Span{}, api.Span{})
	}
}

// holdError tells what is wrong with what is told beside an error.
func holdError(t *testing.T, s *state.State, p state.Parts, old, now api.Span, want api.Errno) {
	t.Helper()
	if then, got, e := reflow.Turn(s, p, old, now); then != nil || got != (api.RowPatch{}) || e != want {
		t.Errorf("%v by %v: %v, %v, %v, not %v", old, now, then, got, e, want)
	}
}

// 29.1: errors, in their order: a nil state, parts, spans.
func TestErrors(t *testing.T) {
	right := partsOf(t, "ab\nc", nil, list(1, 2), 4, 0)
	s := made(t, right)
	form, size := right, right
	form.Folds = nil
	size.Tab = 0
	both := form
	both.Width = -1
	others := []state.Parts{form, size, both, {}}
	for i, want := range []api.Errno{api.ErrForm, api.ErrArg, api.ErrForm, api.ErrArg} {
		for _, x := range []api.Span{{}, span(2, 1), span(9, 9)} {
			holdError(t, s, others[i], x, x, want)
			holdError(t, nil, others[i], x, x, api.ErrState)
		}
	}
	holdError(t, nil, right, api.Span{}, api.Span{}, api.ErrState)
	form = right
	form.Inlays, _ = inlays.New(5, nil)
	holdError(t, s, form, span(9, 9), api.Span{}, api.ErrForm)
	size = right
	size.Width = api.MaxWidth + 1
	holdError(t, s, size, api.Span{}, api.Span{}, api.ErrArg)
}

// 29.1: spans that do not fit; of other sizes of rows too.
func TestSpansThatDoNotFit(t *testing.T) {
	p := partsOf(t, "ab\nc", nil, list(1, 2), 4, 0)
	s := made(t, p)
	few, most := math.MinInt, math.MaxInt
	longer := partsOf(t, "abx\nc", nil, list(1, 2), 4, 0)
	for _, width := range []int{0, 3} {
		p.Width, longer.Width = width, width
		for _, x := range [][2]api.Span{
			{span(-1, 2), span(-1, 2)}, {span(2, 1), span(2, 1)}, {span(2, 5), span(2, 5)}, {span(5, 5), span(5, 5)},
			{span(1, 2), span(2, 2)}, {span(1, 2), span(1, 3)}, {span(1, 2), span(1, 1)}, {span(0, 2), span(1, 2)},
			{span(few, most), span(few, most)}, {span(most, few), span(most, few)}, {span(0, most), span(0, most)}, {span(few, 0), span(few, 0)},
		} {
			holdError(t, s, p, x[0], x[1], api.ErrArg)
		}
		for _, x := range [][2]api.Span{{span(2, 2), span(2, 2)}, {span(2, 3), span(2, 3)}, {span(2, 2), span(1, 2)}, {span(1, 1), span(2, 3)}, {span(2, 4), span(2, 6)}, {span(2, 5), span(2, 6)}} {
			holdError(t, s, longer, x[0], x[1], api.ErrArg)
		}
		hold(t, s, p, span(4, 4), span(4, 4))
		hold(t, s, longer, span(2, 2), span(2, 3))
		hold(t, s, longer, span(2, 4), span(2, 5))
	}
}

// R1, R4: where something else is turned too, a call does not die of it, and tells nothing beside an error.
func TestSomethingElseTurned(t *testing.T) {
	told := 0
	for seed := range 600 {
		p, q := longParts(t, seed), longParts(t, seed+1+mix(seed, 50))
		q.Tab, q.Width = p.Tab, p.Width
		s := made(t, p)
		n, m := p.Text.Runes(), q.Text.Runes()
		from := mix(seed+7, min(n, m)+1)
		behind := mix(seed+8, min(n, m)-from+1)
		then, got, e := reflow.Turn(s, q, span(from, n-behind), span(from, m-behind))
		if e != api.OK {
			told++
			if then != nil || got != (api.RowPatch{}) {
				t.Errorf("%d: %v beside %v", seed, got, e)
			}
		} else if then.Parts() != q {
			t.Errorf("%d: other parts", seed)
		}
		if s.Parts() != p || !s.Sound() {
			t.Errorf("%d: the state is turned", seed)
		}
	}
	if told < 100 {
		t.Errorf("only %d errors", told)
	}
}

// R1: no call dies of a state whose maps are not right, nor of one that has none.
func TestWrongMaps(t *testing.T) {
	p := partsOf(t, "ab\ncd", nil, list(3, 5), 4, 0)
	m := made(t, p).Maps()
	short, _ := flow.New([]flow.Line{{Shown: 4, Buffer: 5, Rows: 1, Wide: 3}})
	many, _ := flow.New([]flow.Line{{Shown: 1, Buffer: 1, Rows: 7, Wide: 3}, {Rows: 1}, {Shown: 3, Buffer: 4, Rows: 2}})
	var states []*state.State
	for _, f := range []*flow.Flow{short, many} {
		x := m
		x.Flow = f
		s, e := state.With(p, x)
		if e != api.OK {
			t.Fatalf("With: %v", e)
		}
		states = append(states, s)
	}
	none, _ := state.With(state.Parts{Tab: 4}, state.Maps{})
	states = append(states, none, &state.State{})
	for i, s := range states {
		for _, q := range []state.Parts{p, {Tab: 4}, {Tab: 5}, partsOf(t, "ab\nc\nd", nil, list(3, 5), 4, 0), partsOf(t, "", nil, nil, 4, 2)} {
			for _, x := range turnedOf(s.Parts().Text.Runes(), q.Text.Runes()) {
				then, got, e := reflow.Turn(s, q, x[0], x[1])
				if e != api.OK && (then != nil || got != (api.RowPatch{})) || e == api.OK && then.Parts() != q {
					t.Errorf("%d: %v: %v, %v", i, x, got, e)
				}
			}
		}
	}
}

// 29.1: what is not laid out anew is left as it is: also where it was not right.
func TestLeavesAllElse(t *testing.T) {
	p := partsOf(t, strings.Repeat("abc\n", 50), nil, nil, 4, 0)
	m := made(t, p).Maps()
	l := m.Flow.Lines()
	for i := range l {
		l[i].Wide = 100 + i
	}
	m.Flow, _ = flow.New(l)
	s, _ := state.With(p, m)
	for _, at := range []int{0, 1, 102, 198, 200} {
		q, old, now := edited(t, p, at, at, "xyz")
		then, _, e := reflow.Turn(s, q, old, now)
		if e != api.OK {
			t.Fatalf("Turn at %d: %v", at, e)
		}
		want := slices.Clone(l)
		i := at / 4
		want[i].Shown += 3
		want[i].Buffer += 3
		want[i].Wide = want[i].Shown - 1
		if i == 50 {
			want[i].Wide = 3
		}
		if got := then.Maps().Flow.Lines(); !slices.Equal(got, want) {
			t.Errorf("at %d: %v", at, got)
		}
	}
}

// 29.1: a state of nothing, also one that has no weave and no crease, as nothing is in them.
func TestNothing(t *testing.T) {
	empty := partsOf(t, "", nil, nil, 4, 0)
	s := made(t, empty)
	bare, e := state.With(state.Parts{Tab: 4}, state.Maps{Flow: s.Maps().Flow})
	if e != api.OK || !bare.Sound() {
		t.Fatalf("With: %v", e)
	}
	for _, x := range []*state.State{s, bare} {
		hold(t, x, empty, api.Span{}, api.Span{})
		hold(t, x, state.Parts{Tab: 4}, api.Span{}, api.Span{})
		hold(t, x, state.Parts{Tab: 5}, api.Span{}, api.Span{})
		hold(t, x, partsOf(t, "", []api.Inlay{{ID: 1, Text: "x"}}, nil, 4, 0), api.Span{}, api.Span{})
		q := partsOf(t, "a\nb", []api.Inlay{{ID: 1, Text: "x"}}, list(0, 3), 4, 0)
		hold(t, made(t, q), state.Parts{Tab: 4}, span(0, 3), api.Span{})
		hold(t, x, q, api.Span{}, span(0, 3))
	}
}

// R6: the same call tells the same, and what was told stays, whatever is turned then.
func TestAgain(t *testing.T) {
	s := made(t, longParts(t, 4))
	q, old, now := edited(t, s.Parts(), 10, 14, "\nxy")
	first, got, _ := reflow.Turn(s, q, old, now)
	all := first.Maps().Flow.Lines()
	for k := range 9 {
		x, a, b := step(t, first.Parts(), k)
		hold(t, first, x, a, b)
		second, again, e := reflow.Turn(s, q, old, now)
		if e != api.OK || again != got || !slices.Equal(second.Maps().Flow.Lines(), all) || !slices.Equal(first.Maps().Flow.Lines(), all) || !first.Sound() {
			t.Fatalf("%d: %v, not %v", k, again, got)
		}
	}
}
