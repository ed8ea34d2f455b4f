package convert_test

import (
	"math"
	"slices"
	"strings"
	"testing"

	"bodkin/api"
	"bodkin/convert"
	"bodkin/crease"
	"bodkin/flow"
	"bodkin/folds"
	"bodkin/inlays"
	"bodkin/layout"
	"bodkin/points"
	"bodkin/reflow"
	"bodkin/rope"
	"bodkin/state"
	"bodkin/weave"
)

// mix is a number from 0 to below n that is hard to foresee and ever the same.
func mix(seed, n int) int {
	x := uint64(seed)*0x9e3779b97f4a7c15 + 0x632be59bd9b4e019
	x ^= x >> 29
	x *= 0xbf58476d1ce4e5b9
	x ^= x >> 32
	return int(x % uint64(n))
}

// point is a row, and how many cells are ahead in it.
func point(row, col int) api.Point { return api.Point{Row: row, Col: col} }

// list are spans, told by their ends.
func list(ends ...int) []api.Span {
	var l []api.Span
	for i := 0; i < len(ends); i += 2 {
		l = append(l, api.Span{From: ends[i], To: ends[i+1]})
	}
	return l
}

// stateOf is a state of a text, inlays and folds.
func stateOf(t *testing.T, s string, l []api.Inlay, f []api.Span, tab, width int) *state.State {
	t.Helper()
	r, e := rope.New(s)
	if e != api.OK {
		t.Fatalf("rope.New: %v", e)
	}
	in, e := inlays.New(r.Runes(), l)
	if e != api.OK {
		t.Fatalf("inlays.New(%d, %v): %v", r.Runes(), l, e)
	}
	shut, e := folds.New(r.Runes(), f)
	if e != api.OK {
		t.Fatalf("folds.New(%d, %v): %v", r.Runes(), f, e)
	}
	x, e := state.New(state.Parts{Text: r, Inlays: in, Folds: shut, Tab: tab, Width: width})
	if e != api.OK {
		t.Fatalf("state.New: %v", e)
	}
	return x
}

// hold tells what is wrong with what is told of a state whose maps are right.
func hold(t *testing.T, s *state.State) {
	t.Helper()
	rows, e := layout.Rows(s.View())
	if e != api.OK {
		t.Fatalf("layout.Rows: %v", e)
	}
	holdShow(t, s, rows)
	holdPoints(t, s, rows)
	holdMaps(t, s)
	holdBack(t, s)
}

// places are all places of n runes, and some that there are not.
func places(n int) []int {
	l := []int{math.MinInt, -2, -1, n + 1, n + 2, math.MaxInt}
	for at := range n + 1 {
		l = append(l, at)
	}
	return l
}

// biases are both biases, and some that are none.
func biases() []int { return []int{api.Left, api.Right, -1, 2, math.MinInt, math.MaxInt} }

// failf tells of a state, and ends the test.
func failf(t *testing.T, s *state.State, format string, more ...any) {
	t.Helper()
	p := s.Parts()
	t.Logf("%q, %v, %v, %d, %d:", p.Text.Text(), p.Inlays.All(), p.Folds.All(), p.Tab, p.Width)
	t.Fatalf(format, more...)
}

// holdShow tells what is wrong with where places are shown; 30.1.
func holdShow(t *testing.T, s *state.State, rows []api.Row) {
	t.Helper()
	for _, at := range places(s.Parts().Text.Runes()) {
		for _, bias := range biases() {
			want, f := points.Show(rows, at, bias)
			if p, e := convert.Show(s, at, bias); p != want || e != f {
				failf(t, s, "Show(%d, %d): %v, %v, not %v, %v", at, bias, p, e, want, f)
			}
		}
	}
}

// near are all points of rows, and some that are none.
func near(rows []api.Row) []api.Point {
	var l []api.Point
	for row := -2; row <= len(rows)+1; row++ {
		n := 1
		if row >= 0 && row < len(rows) {
			n = len(rows[row].Cells)
		}
		l = append(l, point(row, math.MinInt), point(row, math.MaxInt))
		for col := -2; col <= n+2; col++ {
			l = append(l, point(row, col))
		}
	}
	for _, row := range []int{math.MinInt, math.MaxInt} {
		l = append(l, point(row, 0), point(row, math.MinInt), point(row, math.MaxInt))
	}
	return l
}

// holdPoints tells what is wrong with points' places, and with where points are clipped to; 30.1.
func holdPoints(t *testing.T, s *state.State, rows []api.Row) {
	t.Helper()
	valid := points.Valid(rows)
	for i, p := range near(rows) {
		want, f := points.Place(rows, p)
		if at, e := convert.Place(s, p); at != want || e != f || (e == api.OK) != slices.Contains(valid, p) {
			failf(t, s, "Place(%v): %d, %v, not %d, %v", p, at, e, want, f)
		}
		all := biases()
		if i%20 > 0 {
			all = all[:2]
		}
		for _, bias := range all {
			want, f := points.Clip(rows, p, bias)
			if q, e := convert.Clip(s, p, bias); q != want || e != f {
				failf(t, s, "Clip(%v, %d): %v, %v, not %v, %v", p, bias, q, e, want, f)
			}
		}
	}
}

// holdMaps tells what is wrong with places of the woven and of the creased text; 30.2.
func holdMaps(t *testing.T, s *state.State) {
	t.Helper()
	w := weave.New(s.Parts().Inlays)
	c, _ := crease.New(w, s.Parts().Folds.Hidden())
	for _, at := range places(s.Parts().Text.Runes()) {
		for _, bias := range biases() {
			out, f := w.Out(at, bias)
			if n, e := convert.Woven(s, at, bias); n != out || e != f {
				failf(t, s, "Woven(%d, %d): %d, %v, not %d, %v", at, bias, n, e, out, f)
			}
			creased := 0
			if f == api.OK {
				creased, _ = c.Out(out)
			}
			if n, e := convert.Creased(s, at, bias); n != creased || e != f {
				failf(t, s, "Creased(%d, %d): %d, %v, not %d, %v", at, bias, n, e, creased, f)
			}
		}
	}
	_, n := c.Sizes()
	for _, creased := range places(n) {
		woven, f := c.In(creased)
		at := 0
		if f == api.OK {
			at, _, _ = w.In(woven)
		}
		if n, e := convert.Buffer(s, creased); n != at || e != f {
			failf(t, s, "Buffer(%d): %d, %v, not %d, %v", creased, n, e, at, f)
		}
	}
}

// holdBack tells what is wrong with the way there and back, and with the order in which places are shown; 30.3, 30.4.
func holdBack(t *testing.T, s *state.State) {
	t.Helper()
	hidden := s.Parts().Folds.Hidden()
	for bias := range 2 {
		creased, shown := -1, point(-1, 0)
		for at := range s.Parts().Text.Runes() + 1 {
			want := at
			for _, x := range hidden {
				if x.From < at && at < x.To {
					want = x.From
				}
			}
			n, e := convert.Creased(s, at, bias)
			back, f := convert.Buffer(s, n)
			if back != want || e != api.OK || f != api.OK {
				failf(t, s, "Buffer of Creased(%d, %d): %d, %v, %v, not %d", at, bias, back, e, f, want)
			}
			p, e := convert.Show(s, at, bias)
			if e != api.OK || p.Row < shown.Row || p.Row == shown.Row && p.Col < shown.Col {
				failf(t, s, "Show(%d, %d): %v, %v behind %v", at, bias, p, e, shown)
			}
			if n < creased || n > creased && p == shown || want == at && (n == creased || p == shown) {
				failf(t, s, "Creased(%d, %d): %d behind %d, shown at %v behind %v", at, bias, n, creased, p, shown)
			}
			if back, e := convert.Place(s, p); want == at && (back != at || e != api.OK) {
				failf(t, s, "Place of Show(%d, %d), %v: %d, %v", at, bias, p, back, e)
			}
			creased, shown = n, p
		}
	}
}

// The example of the document.
func TestExample(t *testing.T) {
	s := stateOf(t, "ab\ncd", nil, nil, 4, 0)
	if p, e := convert.Show(s, 4, api.Right); p != point(1, 1) || e != api.OK {
		t.Errorf("Show: %v, %v", p, e)
	}
	if n, e := convert.Creased(s, 4, api.Right); n != 4 || e != api.OK {
		t.Errorf("Creased: %d, %v", n, e)
	}
	hold(t, s)
}

// handState is a state of five rows: "  ab ", "--cd" (two of a hanging indent); "x", a placeholder, "e"; "<uv>"; "f".
func handState(t *testing.T) *state.State {
	t.Helper()
	return stateOf(t, "  ab cd\nx\ny\ne\n\nf", []api.Inlay{{ID: 1, At: 14, Text: "uv"}, {ID: 2, At: 10, Text: "w"}}, list(9, 12), 4, 5)
}

// 30.1: places and points, one by one.
func TestByHand(t *testing.T) {
	s := handState(t)
	for at, want := range map[int][2]api.Point{
		0:  {point(0, 0), point(0, 0)},
		4:  {point(0, 4), point(0, 4)},
		5:  {point(1, 2), point(1, 2)},
		7:  {point(1, 4), point(1, 4)},
		8:  {point(2, 0), point(2, 0)},
		9:  {point(2, 1), point(2, 1)},
		10: {point(2, 1), point(2, 1)},
		12: {point(2, 2), point(2, 2)},
		13: {point(2, 3), point(2, 3)},
		14: {point(3, 0), point(3, 2)},
		15: {point(4, 0), point(4, 0)},
		16: {point(4, 1), point(4, 1)},
	} {
		for bias := range 2 {
			if p, e := convert.Show(s, at, bias); p != want[bias] || e != api.OK {
				t.Errorf("Show(%d, %d): %v, %v, not %v", at, bias, p, e, want[bias])
			}
		}
	}
	for p, want := range map[api.Point]int{point(0, 0): 0, point(1, 2): 5, point(1, 4): 7, point(2, 1): 9, point(2, 2): 12, point(2, 3): 13, point(3, 0): 14, point(3, 2): 14, point(4, 1): 16} {
		if at, e := convert.Place(s, p); at != want || e != api.OK {
			t.Errorf("Place(%v): %d, %v, not %d", p, at, e, want)
		}
	}
	for _, p := range []api.Point{point(0, 5), point(1, 0), point(1, 1), point(3, 1), point(0, -1), point(4, 2), point(5, 0), point(-1, 0)} {
		if at, e := convert.Place(s, p); at != 0 || e != api.ErrArg {
			t.Errorf("Place(%v): %d, %v", p, at, e)
		}
	}
	hold(t, s)
}

// 30.1: points that are nearest to some, in their line, and in the line ahead or behind.
func TestClipByHand(t *testing.T) {
	s := handState(t)
	for _, c := range []struct{ p, left, right api.Point }{
		{point(0, 2), point(0, 2), point(0, 2)},
		{point(0, 5), point(0, 4), point(1, 2)},
		{point(1, 0), point(0, 4), point(1, 2)},
		{point(1, -1), point(0, 4), point(1, 2)},
		{point(1, 5), point(1, 4), point(2, 0)},
		{point(2, -1), point(1, 4), point(2, 0)},
		{point(2, 4), point(2, 3), point(3, 0)},
		{point(3, 1), point(3, 0), point(3, 2)},
		{point(3, math.MaxInt), point(3, 2), point(4, 0)},
		{point(4, math.MinInt), point(3, 2), point(4, 0)},
		{point(4, 2), point(4, 1), point(4, 1)},
		{point(5, 0), point(4, 1), point(4, 1)},
		{point(math.MaxInt, math.MinInt), point(4, 1), point(4, 1)},
		{point(0, -1), point(0, 0), point(0, 0)},
		{point(-1, 9), point(0, 0), point(0, 0)},
		{point(math.MinInt, math.MaxInt), point(0, 0), point(0, 0)},
	} {
		for bias, want := range []api.Point{c.left, c.right} {
			if p, e := convert.Clip(s, c.p, bias); p != want || e != api.OK {
				t.Errorf("Clip(%v, %d): %v, %v, not %v", c.p, bias, p, e, want)
			}
		}
	}
}

// 30.2: places in the woven and in the creased text, one by one.
func TestMapsByHand(t *testing.T) {
	s := handState(t)
	for at, want := range map[int][4]int{0: {0, 0, 0, 0}, 9: {9, 9, 9, 9}, 10: {10, 11, 9, 9}, 11: {12, 12, 9, 9}, 12: {13, 13, 10, 10}, 13: {14, 14, 11, 11}, 14: {15, 17, 12, 14}, 16: {19, 19, 16, 16}} {
		for bias := range 2 {
			if n, e := convert.Woven(s, at, bias); n != want[bias] || e != api.OK {
				t.Errorf("Woven(%d, %d): %d, %v, not %d", at, bias, n, e, want[bias])
			}
			if n, e := convert.Creased(s, at, bias); n != want[2+bias] || e != api.OK {
				t.Errorf("Creased(%d, %d): %d, %v, not %d", at, bias, n, e, want[2+bias])
			}
		}
	}
	for creased, want := range []int{0, 1, 2, 3, 4, 5, 6, 7, 8, 9, 12, 13, 14, 14, 14, 15, 16} {
		if at, e := convert.Buffer(s, creased); at != want || e != api.OK {
			t.Errorf("Buffer(%d): %d, %v, not %d", creased, at, e, want)
		}
	}
	for _, creased := range []int{-1, 17, math.MinInt, math.MaxInt} {
		if at, e := convert.Buffer(s, creased); at != 0 || e != api.ErrArg {
			t.Errorf("Buffer(%d): %d, %v", creased, at, e)
		}
	}
}

// A nil state: ErrState, whatever else is wrong.
func TestNil(t *testing.T) {
	for _, n := range []int{0, -1, 3, math.MinInt, math.MaxInt} {
		for _, bias := range biases() {
			p, e := convert.Show(nil, n, bias)
			q, f := convert.Clip(nil, point(n, bias), bias)
			if p != (api.Point{}) || q != (api.Point{}) || e != api.ErrState || f != api.ErrState {
				t.Errorf("Show: %v, %v; Clip: %v, %v", p, e, q, f)
			}
			w, e := convert.Woven(nil, n, bias)
			c, f := convert.Creased(nil, n, bias)
			if w != 0 || c != 0 || e != api.ErrState || f != api.ErrState {
				t.Errorf("Woven: %d, %v; Creased: %d, %v", w, e, c, f)
			}
		}
		at, e := convert.Place(nil, point(n, 0))
		b, f := convert.Buffer(nil, n)
		if at != 0 || b != 0 || e != api.ErrState || f != api.ErrState {
			t.Errorf("Place: %d, %v; Buffer: %d, %v", at, e, b, f)
		}
	}
}

// allTexts are all texts of n of some runes.
func allTexts(some string, n int) []string {
	all := []string{""}
	for range n {
		var more []string
		for _, s := range all {
			for _, r := range some {
				more = append(more, s+string(r))
			}
		}
		all = more
	}
	return all
}

// allFolds are all lists of up to two folds of n runes.
func allFolds(n int) [][]api.Span {
	all := [][]api.Span{nil}
	var one []api.Span
	for a := range n {
		for b := a + 1; b <= n; b++ {
			one = append(one, api.Span{From: a, To: b})
		}
	}
	for i, x := range one {
		all = append(all, []api.Span{x})
		for _, y := range one[i+1:] {
			all = append(all, []api.Span{x, y})
		}
	}
	return all
}

// 30.1 to 30.4: all small texts, whatever is folded in them, with inlays; tabs and widths are now these, now those.
func TestSmall(t *testing.T) {
	seed := 0
	for n := range 5 {
		for _, s := range allTexts("a\n \t"[:4-n/4*2], n) {
			for _, f := range allFolds(n) {
				if seed++; n > 2 && seed%2 > 0 {
					continue
				}
				l := []api.Inlay{{ID: 1, At: mix(seed, n+1), Text: "xy"}, {ID: 2, At: mix(seed+1, n+1), Text: "\t"}, {ID: 3, At: mix(seed+2, n+1), Text: " z"}}
				hold(t, stateOf(t, s, l[:mix(seed+3, 4)], f, 1+mix(seed+4, 4), mix(seed+5, 6)))
			}
		}
	}
}

// long is a state of a longer text of runes of all sizes, with inlays and folds.
func long(t *testing.T, seed int) *state.State {
	t.Helper()
	some := []string{"a", "\n", "b c", "\u4e00", "\t", "\xff", "  ", "\n", "e\u0301", strings.Repeat("x", 30), "\n  de f"}
	var b strings.Builder
	for k := range 5 + mix(seed, 60) {
		b.WriteString(some[mix(seed*100+k, len(some))])
	}
	n := len([]rune(b.String()))
	var l []api.Inlay
	var f []api.Span
	for id := range mix(seed+3, 9) {
		l = append(l, api.Inlay{ID: id + 1, At: mix(seed*10+id, n+1), Bias: id % 2, Text: some[mix(seed+id, len(some)-1)/2*2]})
	}
	for k := range mix(seed+5, 7) {
		from := mix(seed*20+k, n)
		f = append(f, api.Span{From: from, To: min(n, from+1+mix(seed*30+k, 9)+k)})
	}
	slices.SortFunc(f, func(a, b api.Span) int { return a.From - b.From })
	return stateOf(t, b.String(), l, slices.Compact(f), 1+mix(seed+8, api.MaxTab), mix(seed+9, 3)*mix(seed+10, 40))
}

// 30.1 to 30.4: longer texts.
func TestLong(t *testing.T) {
	for seed := range 24 {
		hold(t, long(t, seed))
	}
}

// 30.1 to 30.4: of states that were turned.
func TestTurned(t *testing.T) {
	for seed := range 6 {
		s := long(t, 500+seed)
		for k := range 3 {
			p := s.Parts()
			n := p.Text.Runes()
			x := api.Span{From: mix(seed+k, n), To: n}
			x.To = min(n, x.From+1+mix(seed+7*k, 20))
			if k == 1 {
				p.Inlays, _ = p.Inlays.Splice(nil, []api.Inlay{{ID: 900, At: x.From, Text: "new"}, {ID: 901, At: x.To, Text: "\t"}})
			} else {
				more, e := p.Folds.Add(x)
				if e != api.OK {
					continue
				}
				p.Folds = more
			}
			var e api.Errno
			if s, _, e = reflow.Turn(s, p, x, x); e != api.OK {
				t.Fatalf("Turn: %v", e)
			}
			hold(t, s)
		}
	}
}

// 30.1, 30.2: of nothing.
func TestNothing(t *testing.T) {
	hold(t, stateOf(t, "", nil, nil, 4, 0))
	hold(t, stateOf(t, "", []api.Inlay{{ID: 1, Text: "x"}}, nil, 4, 0))
	hold(t, stateOf(t, "\n", nil, list(0, 1), 4, 0))
	s, e := state.New(state.Parts{Tab: 1})
	if e != api.OK {
		t.Fatalf("New: %v", e)
	}
	hold(t, s)
}

// 30.1: as many lines as there may be, and one as long as it may be.
func TestMost(t *testing.T) {
	for _, x := range []string{strings.Repeat("\n", api.MaxText), strings.Repeat("ab ", api.MaxText/3)} {
		s := stateOf(t, x, []api.Inlay{{ID: 1, At: 9000, Text: "in"}}, list(100, 200), 4, 7)
		rows, _ := layout.Rows(s.View())
		n := s.Parts().Text.Runes()
		for _, at := range []int{0, 99, 100, 150, 200, 9000, n - 1, n} {
			for bias := range 2 {
				want, _ := points.Show(rows, at, bias)
				p, e := convert.Show(s, at, bias)
				back, f := convert.Place(s, p)
				if at != 150 && (back != at || f != api.OK) || p != want || e != api.OK {
					t.Errorf("%d: %v, %v, not %v; back: %d, %v", at, p, e, want, back, f)
				}
				for _, q := range []api.Point{point(want.Row, -1), point(want.Row, 9), point(want.Row+1, 0)} {
					clipped, _ := points.Clip(rows, q, bias)
					if c, e := convert.Clip(s, q, bias); c != clipped || e != api.OK {
						t.Errorf("Clip(%v, %d): %v, %v, not %v", q, bias, c, e, clipped)
					}
				}
			}
		}
	}
}

// with is a state with another flow.
func with(t *testing.T, s *state.State, l []flow.Line) *state.State {
	t.Helper()
	m := s.Maps()
	var e api.Errno
	if m.Flow, e = flow.New(l); e != api.OK {
		t.Fatalf("flow.New: %v", e)
	}
	if s, e = state.With(s.Parts(), m); e != api.OK {
		t.Fatalf("With: %v", e)
	}
	return s
}

// Just the lines that are asked for are laid out: how many rows are ahead is told by the flow, also where it is not right. Where a line has more rows than the text has, it can't be laid out.
func TestByTheFlow(t *testing.T) {
	s := stateOf(t, "ab\ncd\nef\ngh\nij", nil, nil, 4, 0)
	l := s.Maps().Flow.Lines()
	l[0].Rows, l[4].Rows = 1000, 1000
	s = with(t, s, l)
	for at, want := range map[int]api.Point{3: point(1000, 0), 4: point(1000, 1), 7: point(1001, 1), 11: point(1002, 2)} {
		if p, e := convert.Show(s, at, api.Left); p != want || e != api.OK {
			t.Errorf("Show(%d): %v, %v, not %v", at, p, e, want)
		}
		if back, e := convert.Place(s, want); back != at || e != api.OK {
			t.Errorf("Place(%v): %d, %v, not %d", want, back, e, at)
		}
	}
	for _, c := range []struct {
		p, want api.Point
		bias    int
	}{
		{point(1000, 0), point(1000, 0), api.Left},
		{point(1000, 1), point(1000, 1), api.Left},
		{point(1001, -7), point(1000, 2), api.Left},
		{point(1002, 9), point(1002, 2), api.Left},
		{point(1000, -7), point(1000, 0), api.Right},
		{point(1000, 2), point(1000, 2), api.Right},
		{point(1001, 7), point(1002, 0), api.Right},
	} {
		if p, e := convert.Clip(s, c.p, c.bias); p != c.want || e != api.OK {
			t.Errorf("Clip(%v, %d): %v, %v, not %v", c.p, c.bias, p, e, c.want)
		}
	}
	if p, e := convert.Show(s, 1, api.Left); p != (api.Point{}) || e == api.OK {
		t.Errorf("Show of a place in a line that can't be laid out: %v, %v", p, e)
	}
}

// R1, R4: no call dies of maps that are not right, or of a state that has none; beside an error nothing is told.
func TestWrongMaps(t *testing.T) {
	s := stateOf(t, "ab\ncd\n", nil, list(3, 5), 4, 0)
	states := []*state.State{
		with(t, s, []flow.Line{{Shown: 5, Buffer: 6, Rows: 1}}),
		with(t, s, []flow.Line{{Rows: 3}, {Shown: 1, Buffer: 1, Rows: 2}, {Shown: 4, Buffer: 5, Rows: 1}, {Rows: 1}}),
		with(t, s, []flow.Line{{Shown: 5, Rows: 1}, {Buffer: 6, Rows: 9}}),
		{},
	}
	none, _ := state.With(state.Parts{Tab: 4}, state.Maps{})
	for i, s := range append(states, none) {
		for row := -1; row < 12; row++ {
			for col := -1; col < 5; col++ {
				at, e := convert.Place(s, point(row, col))
				if e != api.OK && at != 0 {
					t.Errorf("%d: Place: %d, %v", i, at, e)
				}
				for _, bias := range biases() {
					p, e := convert.Clip(s, point(row, col), bias)
					q, f := convert.Show(s, row, bias)
					if e != api.OK && p != (api.Point{}) || f != api.OK && q != (api.Point{}) {
						t.Errorf("%d: Clip: %v, %v; Show: %v, %v", i, p, e, q, f)
					}
				}
			}
		}
	}
	if p, e := convert.Clip(none, point(0, 0), api.Left); p != (api.Point{}) || e != api.ErrNone {
		t.Errorf("Clip where no row is: %v, %v", p, e)
	}
	if p, e := convert.Show(none, 5, 7); p != (api.Point{}) || e != api.ErrNone {
		t.Errorf("Show where no row is: %v, %v", p, e)
	}
	if at, e := convert.Place(none, point(0, 0)); at != 0 || e != api.ErrArg {
		t.Errorf("Place where no row is: %d, %v", at, e)
	}
}
