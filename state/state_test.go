package state_test

import (
	"math"
	"slices"
	"strings"
	"testing"

	"bodkin/api"
	"bodkin/crease"
	"bodkin/flow"
	"bodkin/folds"
	"bodkin/inlays"
	"bodkin/layout"
	"bodkin/rope"
	"bodkin/state"
	"bodkin/weave"
	"bodkin/width"
)

// mix is a number from 0 to below n that is hard to foresee and ever the same.
func mix(seed, n int) int {
	x := uint64(seed)*0x9e3779b97f4a7c15 + 0x632be59bd9b4e019
	x ^= x >> 29
	x *= 0xbf58476d1ce4e5b9
	x ^= x >> 32
	return int(x % uint64(n))
}

// list are spans, told by their ends.
func list(ends ...int) []api.Span {
	var l []api.Span
	for i := 0; i < len(ends); i += 2 {
		l = append(l, api.Span{From: ends[i], To: ends[i+1]})
	}
	return l
}

// partsOf are parts of a text, inlays and folds.
func partsOf(t *testing.T, s string, l []api.Inlay, f []api.Span, tab, width int) state.Parts {
	t.Helper()
	r, e := rope.New(s)
	if e != api.OK {
		t.Fatalf("rope.New: %v", e)
	}
	in, e := inlays.New(r.Runes(), l)
	if e != api.OK {
		t.Fatalf("inlays.New(%d, %v): %v", r.Runes(), l, e)
	}
	shut, e := folds.New(r.Runes(), f)
	if e != api.OK {
		t.Fatalf("folds.New(%d, %v): %v", r.Runes(), f, e)
	}
	return state.Parts{Text: r, Inlays: in, Folds: shut, Tab: tab, Width: width}
}

// made is a state of parts that are right.
func made(t *testing.T, p state.Parts) *state.State {
	t.Helper()
	s, e := state.New(p)
	if e != api.OK {
		t.Fatalf("New(%v): %v", p, e)
	}
	return s
}

// same tells whether two rows are alike.
func same(a, b api.Row) bool {
	if !slices.Equal(a.Cells, b.Cells) {
		return false
	}
	return a.Start == b.Start && a.End == b.End && a.Buffer == b.Buffer && a.Wrapped == b.Wrapped && a.Folded == b.Folded && a.Width == b.Width
}

// line is a line as its rows tell of it: where it begins and ends, and what the flow has to have of it.
type line struct {
	from, to int
	has      flow.Line
}

// linesOf are the lines that rows of n runes are of, by the words of the document.
func linesOf(rows []api.Row, n int) []line {
	var all []line
	for _, r := range rows {
		if !r.Wrapped {
			all = append(all, line{from: r.Start})
		}
		l := &all[len(all)-1]
		l.to = r.End
		l.has.Rows++
		l.has.Wide = max(l.has.Wide, r.Width)
		for _, c := range r.Cells {
			if c.Kind != api.Filler && c.Kind != api.Indent {
				l.has.Shown++
			}
		}
	}
	for i := range all {
		l := &all[i]
		l.has.Buffer = l.to - l.from
		if l.to < n {
			l.has.Shown++
			l.has.Buffer++
		}
	}
	return all
}

// hold tells what is wrong with the state of parts that are right.
func hold(t *testing.T, p state.Parts) {
	t.Helper()
	if e := state.Check(p); e != api.OK {
		t.Fatalf("Check of %q, %v: %v", p.Text.Text(), p, e)
	}
	s := made(t, p)
	if s.Parts() != p || !s.Sound() {
		t.Fatalf("%q, %v: %v, %v", p.Text.Text(), p, s.Parts(), s.Sound())
	}
	holdMaps(t, p, s)
	v := s.View()
	if v.Text.Rope != p.Text || v.Text.Inlays != p.Inlays || !slices.Equal(v.Text.Hidden, p.Folds.Hidden()) || v.Tab != p.Tab || v.Width != p.Width {
		t.Fatalf("%v: View: %v", p, v)
	}
	rows, e := layout.Rows(v)
	if e != api.OK {
		t.Fatalf("Rows of %v: %v", v, e)
	}
	lines := linesOf(rows, p.Text.Runes())
	holdLines(t, s, lines)
	holdRows(t, s, rows)
}

// holdMaps tells what is wrong with the weave and the crease of a state, which are made from nothing; 28.1.
func holdMaps(t *testing.T, p state.Parts, s *state.State) {
	t.Helper()
	w := weave.New(p.Inlays)
	c, _ := crease.New(w, p.Folds.Hidden())
	m := s.Maps()
	if !slices.Equal(m.Weave.Pieces(), w.Pieces()) || !slices.Equal(m.Crease.Pieces(), c.Pieces()) {
		t.Fatalf("%q, %v: maps %v, %v", p.Text.Text(), p, m.Weave.Pieces(), m.Crease.Pieces())
	}
}

// holdLines tells what is wrong with the flow of a state and with what it tells of its lines: 28.1, 28.2, 28.5.
func holdLines(t *testing.T, s *state.State, lines []line) {
	t.Helper()
	p, m := s.Parts(), s.Maps()
	var want []flow.Line
	shown := 0
	for _, l := range lines {
		out, _ := m.Weave.Out(l.from, api.Left)
		if at, e := m.Crease.Out(out); at != shown || e != api.OK {
			t.Fatalf("%q, %v: of the line from %d: %d are ahead of it, not %d", p.Text.Text(), p, l.from, at, shown)
		}
		shown += l.has.Shown
		want = append(want, l.has)
	}
	if !slices.Equal(m.Flow.Lines(), want) {
		t.Fatalf("%q, %v: the flow is %v, not %v", p.Text.Text(), p, m.Flow.Lines(), want)
	}
	for i := range lines {
		for k := i; k < min(len(lines), i+4); k++ {
			got, e := s.Lines(lines[i].from, lines[k].to)
			if e != api.OK || !slices.Equal(got, want[i:k+1]) {
				t.Fatalf("%q, %v: Lines(%d, %d): %v, %v", p.Text.Text(), p, lines[i].from, lines[k].to, got, e)
			}
		}
	}
	if got, e := state.Measure(p, 0, p.Text.Runes()); e != api.OK || !slices.Equal(got, want) {
		t.Fatalf("%q, %v: Measure of all: %v, %v", p.Text.Text(), p, got, e)
	}
}

// holdNoLines tells what is wrong with what is told of lines from places and up to places that are not those of lines: 28.2.
func holdNoLines(t *testing.T, s *state.State) {
	t.Helper()
	rows, _ := layout.Rows(s.View())
	lines := linesOf(rows, s.Parts().Text.Runes())
	begins := func(at int) bool { return slices.ContainsFunc(lines, func(l line) bool { return l.from == at }) }
	ends := func(at int) bool { return slices.ContainsFunc(lines, func(l line) bool { return l.to == at }) }
	places := []int{math.MinInt, math.MaxInt}
	for at := -1; at <= s.Parts().Text.Runes()+2; at++ {
		places = append(places, at)
	}
	for _, from := range places {
		for _, to := range places {
			want := api.OK
			if !begins(from) || !ends(to) || from > to {
				want = api.ErrArg
			}
			l, e := s.Lines(from, to)
			k, f := state.Measure(s.Parts(), from, to)
			if e != want || f != want || !slices.Equal(l, k) || (l == nil) != (e != api.OK) {
				t.Fatalf("%q, %v: Lines(%d, %d): %v, %v; Measure: %v, %v", s.Parts().Text.Text(), s.Parts(), from, to, l, e, k, f)
			}
		}
	}
}

// holdRows tells what is wrong with the rows that a state tells of: 28.2, 28.4.
func holdRows(t *testing.T, s *state.State, rows []api.Row) {
	t.Helper()
	n := len(rows)
	for from := 0; from <= n; from++ {
		for _, to := range []int{from, from + 1, from + 2, from + 5, n - 1, n} {
			if to < from || to > n {
				continue
			}
			got, e := s.Rows(from, to)
			if e != api.OK || !slices.EqualFunc(got, rows[from:to], same) {
				t.Fatalf("%q, %v: Rows(%d, %d): %v, %v, not %v", s.Parts().Text.Text(), s.Parts(), from, to, got, e, rows[from:to])
			}
		}
	}
	for _, x := range [][2]int{{-1, 0}, {-1, n}, {1, 0}, {n, n - 1}, {0, n + 1}, {n, n + 1}, {n + 1, n + 1}, {n + 1, n + 2}, {math.MinInt, math.MaxInt}, {math.MaxInt, math.MinInt}, {math.MaxInt, math.MaxInt}, {0, math.MaxInt}, {math.MinInt, 0}} {
		if got, e := s.Rows(x[0], x[1]); got != nil || e != api.ErrArg {
			t.Fatalf("%q, %v: Rows%v of %d: %v, %v", s.Parts().Text.Text(), s.Parts(), x, n, got, e)
		}
	}
}

// The example of the document.
func TestExample(t *testing.T) {
	s := made(t, partsOf(t, "ab\nc", nil, nil, 4, 1))
	l, e := s.Lines(0, 4)
	if want := []flow.Line{{Shown: 3, Buffer: 3, Rows: 2, Wide: 1}, {Shown: 1, Buffer: 1, Rows: 1, Wide: 1}}; e != api.OK || !slices.Equal(l, want) {
		t.Errorf("Lines: %v, %v", l, e)
	}
	r, e := s.Rows(1, 3)
	if e != api.OK || len(r) != 2 || r[0].Start != 1 || r[0].Cells[0].Rune != 'b' || r[1].Start != 3 || r[1].Cells[0].Rune != 'c' {
		t.Errorf("Rows: %v, %v", r, e)
	}
}

// allTexts are all texts of n of some runes.
func allTexts(some string, n int) []string {
	all := []string{""}
	for range n {
		var more []string
		for _, s := range all {
			for _, r := range some {
				more = append(more, s+string(r))
			}
		}
		all = more
	}
	return all
}

// allFolds are all lists of up to two folds of n runes.
func allFolds(n int) [][]api.Span {
	all := [][]api.Span{nil}
	var one []api.Span
	for a := range n {
		for b := a + 1; b <= n; b++ {
			one = append(one, api.Span{From: a, To: b})
		}
	}
	for i, x := range one {
		all = append(all, []api.Span{x})
		for _, y := range one[i+1:] {
			all = append(all, []api.Span{x, y})
		}
	}
	return all
}

// 28.1 to 28.5: all small texts, whatever is folded in them, an inlay at each place.
func TestSmall(t *testing.T) {
	for n := range 5 {
		for _, s := range allTexts("a\n", n) {
			for i, f := range allFolds(n) {
				for at := range n + 1 {
					l := []api.Inlay{{ID: 5, At: at, Text: "xy"}}
					hold(t, partsOf(t, s, l, f, 4, (i+at)%4))
				}
				p := partsOf(t, s, nil, f, 4, i%3)
				hold(t, p)
				holdNoLines(t, made(t, p))
			}
		}
	}
}

// long are parts of a longer text of runes of all sizes, with inlays and folds.
func long(t *testing.T, seed int) state.Parts {
	t.Helper()
	some := []string{"a", "\n", "b c", "\u4e00", "\t", "\xff", "  ", "\n", "e\u0301", strings.Repeat("x", 30), "\n  de f"}
	var b strings.Builder
	for k := range 5 + mix(seed, 60) {
		b.WriteString(some[mix(seed*100+k, len(some))])
	}
	n := len([]rune(b.String()))
	var l []api.Inlay
	var f []api.Span
	for id := range mix(seed+3, 9) {
		l = append(l, api.Inlay{ID: id + 1, At: mix(seed*10+id, n+1), Bias: id % 2, Text: some[mix(seed+id, len(some)-1)/2*2]})
	}
	for k := range mix(seed+5, 7) {
		from := mix(seed*20+k, n)
		f = append(f, api.Span{From: from, To: min(n, from+1+mix(seed*30+k, 9)+k)})
	}
	slices.SortFunc(f, func(a, b api.Span) int { return a.From - b.From })
	return partsOf(t, b.String(), l, slices.Compact(f), 1+mix(seed+8, api.MaxTab), mix(seed+9, 3)*mix(seed+10, 40))
}

// 28.1 to 28.5: longer texts.
func TestLong(t *testing.T) {
	for seed := range 80 {
		p := long(t, seed)
		hold(t, p)
		if seed%10 == 0 {
			holdNoLines(t, made(t, p))
		}
	}
}

// 28.1 to 28.4: as many lines as there may be, and one as long as it may be.
func TestMost(t *testing.T) {
	for _, s := range []string{strings.Repeat("\n", api.MaxText), strings.Repeat("ab ", api.MaxText/3), strings.Repeat("\t", api.MaxText)} {
		p := partsOf(t, s, nil, list(100, 200), api.MaxTab, api.MaxWidth)
		x := made(t, p)
		rows, _ := layout.Rows(x.View())
		n := len(rows)
		lines := linesOf(rows, p.Text.Runes())
		all := x.Maps().Flow.Lines()
		if !slices.EqualFunc(all, lines, func(a flow.Line, b line) bool { return a == b.has }) {
			t.Fatalf("%d runes: the flow has %d lines", p.Text.Runes(), len(all))
		}
		for _, part := range [][2]int{{0, n}, {n / 2, n/2 + 1}, {n - 1, n}, {n, n}} {
			got, e := x.Rows(part[0], part[1])
			if e != api.OK || !slices.EqualFunc(got, rows[part[0]:part[1]], same) {
				t.Errorf("%d runes: Rows%v: %v", p.Text.Runes(), part, e)
			}
		}
		if got, e := x.Lines(0, p.Text.Runes()); e != api.OK || !slices.Equal(got, all) {
			t.Errorf("%d runes: Lines of all: %v", p.Text.Runes(), e)
		}
	}
}

// 28.1: what is wrong with parts: sets for another number of runes ahead of sizes that may not be.
func TestCheck(t *testing.T) {
	right := partsOf(t, "ab\nc", nil, list(1, 2), 4, 0)
	more, _ := inlays.New(5, nil)
	less, _ := folds.New(3, list(1, 2))
	sizes := map[[2]int]api.Errno{{0, 0}: api.ErrArg, {-1, 5}: api.ErrArg, {math.MinInt, 5}: api.ErrArg, {17, 5}: api.ErrArg, {math.MaxInt, 5}: api.ErrArg, {4, -1}: api.ErrArg, {4, math.MinInt}: api.ErrArg, {4, 201}: api.ErrArg, {4, math.MaxInt}: api.ErrArg, {1, 0}: api.OK, {16, 200}: api.OK, {1, 1}: api.OK}
	for size, want := range sizes {
		p := right
		p.Tab, p.Width = size[0], size[1]
		holdWrong(t, p, want)
		p.Inlays = more
		holdWrong(t, p, api.ErrForm)
		p.Inlays = nil
		holdWrong(t, p, api.ErrForm)
		p.Inlays, p.Folds = right.Inlays, less
		holdWrong(t, p, api.ErrForm)
		p.Folds = nil
		holdWrong(t, p, api.ErrForm)
		p.Folds, p.Text = right.Folds, nil
		holdWrong(t, p, api.ErrForm)
	}
	holdWrong(t, state.Parts{}, api.ErrArg)
	holdWrong(t, state.Parts{Tab: 1}, api.OK)
}

// holdWrong tells what is wrong with what is told of parts that may be wrong.
func holdWrong(t *testing.T, p state.Parts, want api.Errno) {
	t.Helper()
	if e := state.Check(p); e != want {
		t.Errorf("Check(%v): %v, not %v", p, e, want)
	}
	s, e := state.New(p)
	if e != want || (s == nil) != (want != api.OK) {
		t.Errorf("New(%v): %v, not %v", p, e, want)
	}
	if want == api.OK {
		return
	}
	l, e := state.Measure(p, 0, p.Text.Runes())
	if e != want || l != nil {
		t.Errorf("Measure(%v): %v, not %v", p, e, want)
	}
	if l, e := state.Measure(p, 1, -5); e != want || l != nil {
		t.Errorf("Measure(%v) of no lines: %v, not %v", p, e, want)
	}
	if s, e := state.With(p, state.Maps{}); e != want || s != nil {
		t.Errorf("With(%v): %v, not %v", p, e, want)
	}
}

// withParts are parts of 5 runes, of which 7 are woven, and 6 creased.
func withParts(t *testing.T) state.Parts {
	t.Helper()
	return partsOf(t, "ab\ncd", []api.Inlay{{ID: 1, At: 1, Text: "xy"}}, list(3, 5), 4, 0)
}

// weaveOf is a weave of n runes with an inlay.
func weaveOf(n, at int, text string) *weave.Weave {
	s, _ := inlays.New(n, []api.Inlay{{ID: 1, At: at, Text: text}})
	return weave.New(s)
}

// creaseOf is a crease of a plain text of n runes.
func creaseOf(n int, hidden ...int) *crease.Crease {
	s, _ := inlays.New(n, nil)
	c, _ := crease.New(weave.New(s), list(hidden...))
	return c
}

// flowOf is a flow of lines.
func flowOf(l ...flow.Line) *flow.Flow {
	f, _ := flow.New(l)
	return f
}

// 28.1: maps of another number of runes than the one ahead tells, one by one.
func TestWith(t *testing.T) {
	p := withParts(t)
	m := made(t, p).Maps()
	s, e := state.With(p, m)
	if e != api.OK || !s.Sound() || s.Parts() != p || s.Maps() != m {
		t.Fatalf("With its own maps: %v", e)
	}
	for _, x := range []state.Maps{
		{}, {Weave: m.Weave}, {Weave: m.Weave, Crease: m.Crease}, {Crease: m.Crease, Flow: m.Flow}, {Weave: m.Weave, Flow: m.Flow},
		{Weave: weaveOf(4, 1, "xyz"), Crease: m.Crease, Flow: m.Flow},
		{Weave: weaveOf(6, 1, "x"), Crease: m.Crease, Flow: m.Flow},
		{Weave: m.Weave, Crease: creaseOf(6), Flow: m.Flow},
		{Weave: m.Weave, Crease: creaseOf(8, 0, 3), Flow: m.Flow},
		{Weave: m.Weave, Crease: m.Crease, Flow: flowOf(flow.Line{Shown: 5, Buffer: 5, Rows: 1})},
		{Weave: m.Weave, Crease: m.Crease, Flow: flowOf(flow.Line{Shown: 7, Buffer: 5, Rows: 1})},
		{Weave: m.Weave, Crease: m.Crease, Flow: flowOf(flow.Line{Shown: 6, Buffer: 4, Rows: 1})},
		{Weave: m.Weave, Crease: m.Crease, Flow: flowOf(flow.Line{Shown: 6, Buffer: 6, Rows: 1})},
	} {
		if s, e := state.With(p, x); s != nil || e != api.ErrForm {
			t.Errorf("With(%v): %v", x, e)
		}
	}
}

// 28.1, 28.3: maps of the same sizes, of which one is not right.
func TestSound(t *testing.T) {
	p := withParts(t)
	m := made(t, p).Maps()
	first, second := flow.Line{Shown: 5, Buffer: 3, Rows: 1, Wide: 4}, flow.Line{Shown: 1, Buffer: 2, Rows: 1, Wide: 1}
	for i, x := range []state.Maps{
		{Weave: weaveOf(5, 1, "uv"), Crease: creaseOf(7, 5, 7), Flow: flowOf(first, second)}, // pieces tell of no runes
		{Weave: weaveOf(5, 2, "xy"), Crease: m.Crease, Flow: m.Flow},
		{Weave: weaveOf(5, 1, "xy"), Crease: creaseOf(7, 4, 6), Flow: m.Flow},
		{Weave: m.Weave, Crease: creaseOf(7, 2, 4), Flow: m.Flow},
		{Weave: m.Weave, Crease: m.Crease, Flow: flowOf(second, first)},
		{Weave: m.Weave, Crease: m.Crease, Flow: flowOf(first, flow.Line{Shown: 1, Buffer: 2, Rows: 2, Wide: 1})},
		{Weave: m.Weave, Crease: m.Crease, Flow: flowOf(first, flow.Line{Shown: 1, Buffer: 2, Rows: 1, Wide: 2})},
		{Weave: m.Weave, Crease: m.Crease, Flow: flowOf(flow.Line{Shown: 4, Buffer: 3, Rows: 1, Wide: 4}, flow.Line{Shown: 2, Buffer: 2, Rows: 1, Wide: 1})},
		{Weave: m.Weave, Crease: m.Crease, Flow: flowOf(flow.Line{Shown: 5, Buffer: 4, Rows: 1, Wide: 4}, flow.Line{Shown: 1, Buffer: 1, Rows: 1, Wide: 1})},
		{Weave: m.Weave, Crease: m.Crease, Flow: flowOf(flow.Line{Shown: 6, Buffer: 5, Rows: 2, Wide: 4})},
		{Weave: m.Weave, Crease: m.Crease, Flow: flowOf(first, second, flow.Line{Rows: 1})},
	} {
		s, e := state.With(p, x)
		if e != api.OK || s.Sound() != (i == 0) || s.Maps() != x {
			t.Errorf("With the maps %d: %v, %v", i, e, s.Sound())
		}
		holdAlive(t, s)
	}
	w := partsOf(t, "ab cd", nil, nil, 4, 3)
	other := made(t, partsOf(t, "ab cd", nil, nil, 4, 2))
	if s, e := state.With(w, other.Maps()); e != api.OK || s.Sound() {
		t.Errorf("With the maps of another width: %v, %v", e, s.Sound())
	}
}

// holdAlive tells what is wrong with what a state tells whose maps may be wrong: it tells something, and no rows beside an error.
func holdAlive(t *testing.T, s *state.State) {
	t.Helper()
	n := s.Maps().Flow.Sum().Rows
	for from := range n + 1 {
		for to := from; to <= n; to++ {
			if r, e := s.Rows(from, to); e != api.OK && r != nil || e == api.OK && len(r) != to-from {
				t.Errorf("Rows(%d, %d): %v, %v", from, to, r, e)
			}
		}
	}
}

// 28.1, 28.3: a text that has nothing is one line; maps that are nil have none.
func TestNothing(t *testing.T) {
	for _, p := range []state.Parts{{Tab: 1}, partsOf(t, "", []api.Inlay{{ID: 1, Text: "\tx"}}, nil, 4, 3), partsOf(t, "", nil, nil, 16, 200)} {
		hold(t, p)
		holdNoLines(t, made(t, p))
	}
	p := state.Parts{Tab: 1}
	s, e := state.With(p, state.Maps{})
	if e != api.OK || s.Sound() {
		t.Errorf("With no maps: %v, %v", e, s.Sound())
	}
	holdAlive(t, s)
	if r, e := s.Rows(0, 0); r != nil || e != api.OK {
		t.Errorf("Rows: %v, %v", r, e)
	}
	if s, e := state.With(p, state.Maps{Flow: made(t, p).Maps().Flow}); e != api.OK || !s.Sound() {
		t.Errorf("With a flow alone: %v, %v", e, s.Sound())
	}
}

// A nil state, and one that none has made, have nothing.
func TestNil(t *testing.T) {
	var none *state.State
	if none.Parts() != (state.Parts{}) || none.Maps() != (state.Maps{}) || none.Sound() {
		t.Errorf("%v, %v, %v", none.Parts(), none.Maps(), none.Sound())
	}
	if v := none.View(); v.Text.Rope != nil || v.Text.Inlays != nil || v.Text.Hidden != nil || v.Table != nil || v.Tab != 0 || v.Width != 0 {
		t.Errorf("View: %v", v)
	}
	for _, x := range [][2]int{{0, 0}, {-1, 3}, {3, 1}, {0, 9}} {
		if r, e := none.Rows(x[0], x[1]); r != nil || e != api.ErrState {
			t.Errorf("Rows%v: %v, %v", x, r, e)
		}
		if l, e := none.Lines(x[0], x[1]); l != nil || e != api.ErrState {
			t.Errorf("Lines%v: %v, %v", x, l, e)
		}
	}
	var zero state.State
	if zero.Parts() != (state.Parts{}) || zero.Maps() != (state.Maps{}) || zero.Sound() {
		t.Errorf("of the zero state: %v, %v", zero.Parts(), zero.Maps())
	}
	if r, e := zero.Rows(0, 1); r != nil || e != api.ErrArg {
		t.Errorf("Rows of the zero state: %v, %v", r, e)
	}
	if l, e := zero.Lines(0, 0); l != nil || e != api.ErrArg {
		t.Errorf("Lines of the zero state: %v, %v", l, e)
	}
}

// 28.1: the table of widths is the plain one.
func TestTable(t *testing.T) {
	v := made(t, partsOf(t, "a", nil, nil, 4, 0)).View()
	for _, r := range []rune{'a', '\t', 0, 0x301, 0x4e00, 0x1f600, 0xfffd, math.MaxInt32, -1} {
		if v.Table.Of(r) != width.Plain().Of(r) {
			t.Errorf("%x: %d", r, v.Table.Of(r))
		}
	}
}

// R3, R6: what a state tells is new each time: who writes into it turns nothing.
func TestAnswersAreNew(t *testing.T) {
	p := partsOf(t, "ab c\nd\nef", []api.Inlay{{ID: 1, At: 1, Text: "xy"}}, list(2, 4, 6, 9), 4, 2)
	s := made(t, p)
	for range 2 {
		hold(t, p)
		holdRows(t, s, rowsOf(t, p))
		r, _ := s.Rows(1, 3)
		for _, x := range r[:cap(r)] {
			for k := range x.Cells[:cap(x.Cells)] {
				x.Cells[:cap(x.Cells)][k] = api.Cell{Rune: 'z', Kind: 9}
			}
		}
		clear(r[:cap(r)])
		h := s.View().Text.Hidden
		h = h[:cap(h)]
		for k := range h {
			h[k] = api.Span{From: -1}
		}
		l, _ := s.Lines(0, 9)
		clear(l[:cap(l)])
		if !s.Sound() {
			t.Error("the state is not sound")
		}
	}
}

// rowsOf are all rows of parts.
func rowsOf(t *testing.T, p state.Parts) []api.Row {
	t.Helper()
	r, e := layout.Rows(made(t, p).View())
	if e != api.OK {
		t.Fatalf("layout.Rows: %v", e)
	}
	return r
}
