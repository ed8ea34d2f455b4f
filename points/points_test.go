package points_test

import (
	"math"
	"slices"
	"strings"
	"testing"

	"bodkin/api"
	"bodkin/inlays"
	"bodkin/layout"
	"bodkin/points"
	"bodkin/rope"
	"bodkin/source"
	"bodkin/width"
)

// mix is a number from 0 to below n that is hard to foresee and ever the same.
func mix(seed, n int) int {
	x := uint64(seed)*0x9e3779b97f4a7c15 + 0x632be59bd9b4e019
	x ^= x >> 29
	x *= 0xbf58476d1ce4e5b9
	x ^= x >> 32
	return int(x % uint64(n))
}

// list are spans, told by their ends.
func list(ends ...int) []api.Span {
	var l []api.Span
	for i := 0; i < len(ends); i += 2 {
		l = append(l, api.Span{From: ends[i], To: ends[i+1]})
	}
	return l
}

// viewOf is a view of a buffer, inlays and hidden spans.
func viewOf(t *testing.T, s string, l []api.Inlay, hidden []api.Span, tab, w int) layout.View {
	t.Helper()
	r, e := rope.New(s)
	if e != api.OK {
		t.Fatalf("rope.New: %v", e)
	}
	in, e := inlays.New(r.Runes(), l)
	if e != api.OK {
		t.Fatalf("inlays.New(%d, %v): %v", r.Runes(), l, e)
	}
	return layout.View{Text: source.Text{Rope: r, Inlays: in, Hidden: hidden}, Table: width.Plain(), Tab: tab, Width: w}
}

// rowsOf are a view's rows.
func rowsOf(t *testing.T, v layout.View) []api.Row {
	t.Helper()
	rows, e := layout.Rows(v)
	if e != api.OK {
		t.Fatalf("layout.Rows(%v): %v", v, e)
	}
	return rows
}

// point is a row and a column.
func point(row, col int) api.Point { return api.Point{Row: row, Col: col} }

// behind tells whether a point is behind another one.
func behind(p, q api.Point) bool { return p.Row > q.Row || p.Row == q.Row && p.Col > q.Col }

// ends tells whether a row is its line's last one.
func ends(rows []api.Row, row int) bool { return row+1 == len(rows) || !rows[row+1].Wrapped }

// before is the cell ahead of a cell in its line, without those of an indent; false, if there is none.
func before(rows []api.Row, row, col int) (api.Cell, bool) {
	for {
		for col--; col >= 0; col-- {
			if c := rows[row].Cells[col]; c.Kind != 5 {
				return c, true
			}
		}
		if row == 0 || !rows[row].Wrapped {
			return api.Cell{}, false
		}
		row--
		col = len(rows[row].Cells)
	}
}

// is tells whether a point is valid, by the words of the document.
func is(rows []api.Row, p api.Point) bool {
	if p.Row < 0 || p.Row >= len(rows) || p.Col < 0 || p.Col > len(rows[p.Row].Cells) {
		return false
	}
	if p.Col == len(rows[p.Row].Cells) {
		return ends(rows, p.Row)
	}
	switch c := rows[p.Row].Cells[p.Col]; c.Kind {
	case 1, 3:
		return true
	case 2:
		ahead, there := before(rows, p.Row, p.Col)
		return !there || ahead.At != c.At
	}
	return false
}

// at is a valid point's place, and of what kind the cell there is: 0 at a line's end.
func at(rows []api.Row, p api.Point) (int, int) {
	r := rows[p.Row]
	if p.Col == len(r.Cells) {
		return r.End, 0
	}
	return r.Cells[p.Col].At, r.Cells[p.Col].Kind
}

// validOf are all valid points, by the words of the document.
func validOf(rows []api.Row) []api.Point {
	var l []api.Point
	for i, r := range rows {
		for col := range len(r.Cells) + 1 {
			if is(rows, point(i, col)) {
				l = append(l, point(i, col))
			}
		}
	}
	return l
}

// clipOf is where a point is clipped to, by the words of the document.
func clipOf(valid []api.Point, p api.Point, bias int) api.Point {
	if bias == 0 {
		q := valid[0]
		for _, x := range valid {
			if !behind(x, p) {
				q = x
			}
		}
		return q
	}
	for _, x := range valid {
		if !behind(p, x) {
			return x
		}
	}
	return valid[len(valid)-1]
}

// showOf is where a place is shown, by the words of the document; false, if it is nowhere.
func showOf(rows []api.Row, valid []api.Point, place, bias int) (api.Point, bool) {
	var q api.Point
	found := false
	for _, p := range valid {
		if n, kind := at(rows, p); kind != 2 && n <= place {
			q, found = p, true
		}
	}
	if !found {
		return q, false
	}
	if n, _ := at(rows, q); n == place && bias == 0 {
		for _, p := range valid {
			if n, kind := at(rows, p); kind == 2 && n == place {
				return p, true
			}
		}
	}
	return q, true
}

// near are all points in some rows and around them.
func near(rows []api.Row) []api.Point {
	l := []api.Point{point(math.MinInt, 0), point(-1, 5), point(len(rows), -1), point(len(rows), 0), point(math.MaxInt, 0), point(0, math.MinInt), point(0, math.MaxInt)}
	for i, r := range rows {
		for col := -1; col <= len(r.Cells)+1; col++ {
			l = append(l, point(i, col))
		}
	}
	return l
}

// hold tells what is wrong with what is told of some rows, one at least.
func hold(t *testing.T, rows []api.Row) {
	t.Helper()
	want := validOf(rows)
	valid := points.Valid(rows)
	if !slices.Equal(valid, want) {
		t.Fatalf("Valid(%v): %v, not %v", rows, valid, want)
	}
	for _, p := range near(rows) {
		right := is(rows, p)
		if points.Is(rows, p) != right {
			t.Fatalf("Is(%v, %v): %v", rows, p, !right)
		}
		wantAt, wantErr := 0, api.ErrArg
		if right {
			wantAt, _ = at(rows, p)
			wantErr = api.OK
		}
		if n, e := points.Place(rows, p); n != wantAt || e != wantErr {
			t.Fatalf("Place(%v, %v): %d, %v, not %d, %v", rows, p, n, e, wantAt, wantErr)
		}
		for bias := range 2 {
			if q, e := points.Clip(rows, p, bias); q != clipOf(want, p, bias) || e != api.OK {
				t.Fatalf("Clip(%v, %v, %d): %v, %v, not %v", rows, p, bias, q, e, clipOf(want, p, bias))
			}
		}
	}
	holdShow(t, rows, want)
}

// holdShow tells what is wrong with where places of some rows are shown.
func holdShow(t *testing.T, rows []api.Row, valid []api.Point) {
	t.Helper()
	last := rows[len(rows)-1].End
	for place := -2; place <= last+2; place++ {
		for bias := range 2 {
			want, there := showOf(rows, valid, place, bias)
			p, e := points.Show(rows, place, bias)
			switch {
			case place < 0 || place > last:
				if p != (api.Point{}) || e != api.ErrArg {
					t.Fatalf("Show(%v, %d, %d): %v, %v", rows, place, bias, p, e)
				}
			case !there:
				if p != (api.Point{}) || e != api.ErrNone {
					t.Fatalf("Show(%v, %d, %d): %v, %v", rows, place, bias, p, e)
				}
			case p != want || e != api.OK:
				t.Fatalf("Show(%v, %d, %d): %v, %v, not %v", rows, place, bias, p, e, want)
			}
		}
	}
}

// holdView tells what is wrong with what is told of a view's rows: 24.1 to 24.6.
func holdView(t *testing.T, v layout.View) {
	t.Helper()
	rows := rowsOf(t, v)
	hold(t, rows)
	var ahead [2]api.Point // where the last place that is not within what is hidden is shown, by either bias
	for place := range v.Text.Rope.Runes() + 1 {
		k := slices.IndexFunc(v.Text.Hidden, func(x api.Span) bool { return x.From < place && place < x.To })
		for bias := range 2 {
			p, e := points.Show(rows, place, bias)
			n, f := points.Place(rows, p)
			_, kind := at(rows, p)
			switch {
			case e != api.OK || f != api.OK:
				t.Fatalf("%v: %d is shown at %v, %v, its place is %d, %v", v, place, p, e, n, f)
			case k < 0 && (n != place || place > 0 && !behind(p, ahead[bias])):
				t.Fatalf("%v: %d is shown at %v, its place is %d; the one ahead at %v", v, place, p, n, ahead[bias])
			case k >= 0 && (n != v.Text.Hidden[k].From || kind != api.Folded):
				t.Fatalf("%v: %d, hidden, is shown at %v, its place is %d", v, place, p, n)
			}
			if k < 0 {
				ahead[bias] = p
			}
		}
	}
	for _, p := range near(rows) {
		for bias := range 2 {
			q, _ := points.Clip(rows, p, bias)
			again, _ := points.Clip(rows, q, 1-bias)
			n, kind := at(rows, q)
			if !points.Is(rows, q) || again != q {
				t.Fatalf("%v: %v is clipped to %v, that to %v", v, p, q, again)
			}
			if back, _ := points.Show(rows, n, api.Right); (kind == api.Plain || kind == api.Folded) && back != q {
				t.Fatalf("%v: %v is clipped to %v, its place %d is shown at %v", v, p, q, n, back)
			}
		}
	}
}

// The document's examples: that of points, and 3 and 4 of the whole.
func TestExamples(t *testing.T) {
	rows := rowsOf(t, viewOf(t, "a", []api.Inlay{{ID: 1, Text: "x"}}, nil, 4, 0))
	if l := points.Valid(rows); !slices.Equal(l, []api.Point{point(0, 0), point(0, 1), point(0, 2)}) {
		t.Errorf("Valid: %v", l)
	}
	for bias := range 2 {
		if p, e := points.Show(rows, 0, bias); p != point(0, bias) || e != api.OK {
			t.Errorf("Show(0, %d): %v, %v", bias, p, e)
		}
	}
	rows = rowsOf(t, viewOf(t, "abcd", []api.Inlay{{ID: 1, At: 3, Text: "xyz"}}, nil, 4, 0))
	for bias, col := range []int{3, 6} {
		if p, e := points.Show(rows, 3, bias); p != point(0, col) || e != api.OK {
			t.Errorf("Show(3, %d): %v, %v", bias, p, e)
		}
	}
	rows = rowsOf(t, viewOf(t, "a\tb", nil, nil, 4, 0))
	if l := points.Valid(rows); !slices.Equal(l, []api.Point{point(0, 0), point(0, 1), point(0, 4), point(0, 5)}) {
		t.Errorf("Valid of a tab: %v", l)
	}
}

// 24.1: valid points by hand.
func TestValid(t *testing.T) {
	x := func(at int, s string) api.Inlay { return api.Inlay{ID: 100 + at, At: at, Text: s} }
	for i, c := range []struct {
		s      string
		l      []api.Inlay
		hidden []api.Span
		w      int
		want   []api.Point
	}{
		{"", nil, nil, 0, []api.Point{{}}},
		{"\n", nil, nil, 0, []api.Point{{}, point(1, 0)}},
		{"", []api.Inlay{x(0, "xy")}, nil, 0, []api.Point{{}, point(0, 2)}},
		// The end of a row is none, where its line goes on.
		{"abc", nil, nil, 2, []api.Point{{}, point(0, 1), point(1, 0), point(1, 1)}},
		// An indent's cells are none: not even ahead of the first one.
		{"  ab cd", nil, nil, 5, []api.Point{{}, point(0, 1), point(0, 2), point(0, 3), point(0, 4), point(1, 2), point(1, 3), point(1, 4)}},
		// What is more of a tab is none, in the next row too.
		{"\tb", nil, nil, 3, []api.Point{{}, point(1, 1), point(1, 2)}},
		// Inlays of one place have one, also in rows of their own, and behind an indent.
		{"ab", []api.Inlay{x(1, "pqrs")}, nil, 2, []api.Point{{}, point(0, 1), point(2, 1), point(2, 2)}},
		{"  a", []api.Inlay{x(3, "pqrs")}, nil, 4, []api.Point{{}, point(0, 1), point(0, 2), point(0, 3), point(2, 3)}},
		{"  ab", []api.Inlay{x(3, "pqrs")}, nil, 4, []api.Point{{}, point(0, 1), point(0, 2), point(0, 3), point(2, 3), point(2, 4)}},
		// Inlays of neighbouring places have one each, where what is between is hidden too.
		{"abc", []api.Inlay{x(1, "p"), x(2, "q")}, list(1, 2), 0, []api.Point{{}, point(0, 1), point(0, 2), point(0, 3), point(0, 4), point(0, 5)}},
		// What stands in a line has no part in the next one.
		{"\nb", []api.Inlay{x(0, "p"), x(1, "q")}, nil, 0, []api.Point{{}, point(0, 1), point(1, 0), point(1, 1), point(1, 2)}},
		// A placeholder has one, as has what takes no cell.
		{"a\u0301b", nil, list(2, 3), 0, []api.Point{{}, point(0, 1), point(0, 2), point(0, 3)}},
	} {
		v := viewOf(t, c.s, c.l, c.hidden, 4, c.w)
		rows := rowsOf(t, v)
		if l := points.Valid(rows); !slices.Equal(l, c.want) {
			t.Errorf("%d: %v, not %v", i, l, c.want)
		}
		holdView(t, v)
	}
}

// 24.2: points between valid ones, ahead of all, behind all, in rows that there are not.
func TestClip(t *testing.T) {
	rows := rowsOf(t, viewOf(t, "  ab cd\n\te", nil, nil, 4, 5)) // "  ab ", "--cd", "\t___e"
	for _, c := range []struct{ p, left, right api.Point }{
		{point(0, 3), point(0, 3), point(0, 3)},
		{point(0, 5), point(0, 4), point(1, 2)},
		{point(0, 99), point(0, 4), point(1, 2)},
		{point(0, math.MaxInt), point(0, 4), point(1, 2)},
		{point(1, math.MinInt), point(0, 4), point(1, 2)},
		{point(1, 0), point(0, 4), point(1, 2)},
		{point(1, 1), point(0, 4), point(1, 2)},
		{point(1, 2), point(1, 2), point(1, 2)},
		{point(1, 4), point(1, 4), point(1, 4)},
		{point(1, 5), point(1, 4), point(2, 0)},
		{point(2, 1), point(2, 0), point(2, 4)},
		{point(2, 6), point(2, 5), point(2, 5)},
		{point(0, -1), point(0, 0), point(0, 0)},
		{point(-1, 7), point(0, 0), point(0, 0)},
		{point(math.MinInt, math.MaxInt), point(0, 0), point(0, 0)},
		{point(3, -1), point(2, 5), point(2, 5)},
		{point(math.MaxInt, math.MinInt), point(2, 5), point(2, 5)},
	} {
		for bias, want := range []api.Point{c.left, c.right} {
			if p, e := points.Clip(rows, c.p, bias); p != want || e != api.OK {
				t.Errorf("Clip(%v, %d): %v, %v, not %v", c.p, bias, p, e, want)
			}
		}
	}
}

// 24.3: where places are shown, by hand: at breaks, at both ends of what is hidden and within it, with inlays there.
func TestShow(t *testing.T) {
	x := func(at int, s string) api.Inlay { return api.Inlay{ID: 100 + at, At: at, Text: s} }
	// a, pq, a placeholder, b; r; st, a placeholder; u, c
	rows := rowsOf(t, viewOf(t, "a..b\n\n...\nc", []api.Inlay{x(1, "pq"), x(2, "no"), x(5, "r"), x(6, "st"), x(8, "no"), x(10, "u")}, list(1, 3, 6, 9), 4, 0))
	for _, c := range []struct {
		at          int
		left, right api.Point
	}{
		{0, point(0, 0), point(0, 0)},
		{1, point(0, 1), point(0, 3)},
		{2, point(0, 3), point(0, 3)},
		{3, point(0, 4), point(0, 4)},
		{4, point(0, 5), point(0, 5)},
		{5, point(1, 0), point(1, 1)},
		{6, point(2, 0), point(2, 2)},
		{7, point(2, 2), point(2, 2)},
		{8, point(2, 2), point(2, 2)},
		{9, point(2, 3), point(2, 3)},
		{10, point(3, 0), point(3, 1)},
		{11, point(3, 2), point(3, 2)},
	} {
		for bias, want := range []api.Point{c.left, c.right} {
			if p, e := points.Show(rows, c.at, bias); p != want || e != api.OK {
				t.Errorf("Show(%d, %d): %v, %v, not %v", c.at, bias, p, e, want)
			}
		}
	}
}

// 24.1 to 24.3: no rows; biases and places that may not be.
func TestErrors(t *testing.T) {
	far := []int{math.MinInt, -1, 2, 3, math.MaxInt}
	for _, rows := range [][]api.Row{nil, {}} {
		if l := points.Valid(rows); len(l) > 0 {
			t.Errorf("Valid: %v", l)
		}
		for _, bias := range append(far, 0, 1) {
			if p, e := points.Clip(rows, point(1, 1), bias); p != (api.Point{}) || e != api.ErrNone {
				t.Errorf("Clip, %d: %v, %v", bias, p, e)
			}
			for _, at := range append(far, 0) {
				if p, e := points.Show(rows, at, bias); p != (api.Point{}) || e != api.ErrNone {
					t.Errorf("Show(%d, %d): %v, %v", at, bias, p, e)
				}
			}
		}
		for _, p := range near(rows) {
			if n, e := points.Place(rows, p); n != 0 || e != api.ErrArg || points.Is(rows, p) {
				t.Errorf("Place(%v): %d, %v", p, n, e)
			}
		}
	}
	rows := rowsOf(t, viewOf(t, "a\nb", nil, nil, 4, 0))
	for _, bias := range far {
		if p, e := points.Clip(rows, point(0, 1), bias); p != (api.Point{}) || e != api.ErrArg {
			t.Errorf("Clip, %d: %v, %v", bias, p, e)
		}
		if p, e := points.Show(rows, 2, bias); p != (api.Point{}) || e != api.ErrArg {
			t.Errorf("Show, %d: %v, %v", bias, p, e)
		}
	}
	for _, at := range []int{math.MinInt, -1, 4, math.MaxInt} {
		for bias := range 2 {
			if p, e := points.Show(rows, at, bias); p != (api.Point{}) || e != api.ErrArg {
				t.Errorf("Show(%d, %d): %v, %v", at, bias, p, e)
			}
		}
	}
	for _, p := range []api.Point{point(0, 2), point(0, -1), point(-1, 0), point(2, 0), point(1, 2), point(math.MaxInt, 0), point(0, math.MinInt)} {
		if n, e := points.Place(rows, p); n != 0 || e != api.ErrArg || points.Is(rows, p) {
			t.Errorf("Place(%v): %d, %v", p, n, e)
		}
	}
}

// covers calls do with all ways in which spans of n places are hidden.
func covers(n int, do func([]api.Span)) {
	var grow func(at int, l []api.Span)
	grow = func(at int, l []api.Span) {
		if at == n {
			do(l)
			return
		}
		grow(at+1, l)
		for to := at + 1; to <= n; to++ {
			grow(to, append(slices.Clone(l), api.Span{From: at, To: to}))
		}
	}
	grow(0, nil)
}

// 24.1 to 24.6: of short buffers, with all that may be hidden, and inlays at each choice of places; tabs and widths are now these, now those.
func TestAllSmall(t *testing.T) {
	kinds := []string{"a", "\n", " ", "\t"}
	seed := 0
	var grow func(n int, s string)
	grow = func(n int, s string) {
		covers(n, func(hidden []api.Span) {
			for places := range 1 << (n + 1) {
				var l []api.Inlay
				for at := range n + 1 {
					if places>>at&1 == 1 {
						l = append(l, api.Inlay{ID: 1 + at, At: at, Text: "x\tz"[:1+at%3]})
					}
				}
				seed++
				holdView(t, viewOf(t, s, l, hidden, 1+mix(seed, 4), mix(seed+1, 5)))
			}
		})
		if n < 3 {
			for _, k := range kinds {
				grow(n+1, s+k)
			}
		}
	}
	grow(0, "")
}

// some is a view of some seed: of about n runes at most, with a break in about one of many of them.
func some(t *testing.T, n, many, seed int) layout.View {
	t.Helper()
	n = mix(seed, n+1)
	kinds := []string{"a", " ", "\t", "\u4e00", "b", "\xff", "\u0301", " ", "\u2026"}
	kinds = kinds[:2+mix(seed+4, 8)]
	var b strings.Builder
	for i := range n {
		if mix(10*seed+i, many) == 0 {
			b.WriteString("\n" + strings.Repeat(" ", mix(11*seed+i, 6)))
		} else {
			b.WriteString(kinds[mix(20*seed+i, len(kinds))])
		}
	}
	s := b.String()
	n = len([]rune(s))
	var l []api.Inlay
	for i := range mix(seed+1, 20) {
		k := 30*seed + 5*i
		l = append(l, api.Inlay{ID: 1 + i, At: mix(k, n+1), Bias: mix(k+1, 2), Key: mix(k+2, 3), Text: strings.Repeat(kinds[mix(k+3, len(kinds))], 1+mix(k+4, 4))})
	}
	var hidden []api.Span
	for at, k := mix(seed+2, 9), 40*seed; at < n; k += 2 {
		to := min(at+1+mix(k, 20), n)
		hidden = append(hidden, api.Span{From: at, To: to})
		at = to + max(mix(k+1, 40)-10, 0)
	}
	if mix(seed+3, 3) == 0 {
		hidden = nil
	}
	return viewOf(t, s, l, hidden, 1+mix(seed+5, api.MaxTab), mix(seed+6, 20))
}

// 24.1 to 24.6: of longer buffers, with short lines and long ones.
func TestAllSome(t *testing.T) {
	for seed := range 100 {
		holdView(t, some(t, []int{6, 20, 40}[mix(seed, 3)], []int{2, 5, 30, 1000}[mix(seed+1, 4)], 1000*seed))
	}
}

// 24.1 to 24.3: of some of a text's rows: the first one may be one that is wrapped, and the first places are shown nowhere.
func TestSomeRows(t *testing.T) {
	nowhere := 0
	for seed := range 60 {
		rows := rowsOf(t, some(t, 25, []int{3, 6, 1000}[mix(seed, 3)], 1000*seed+7))
		for from := range min(len(rows), 8) {
			for to := from + 1; to <= min(len(rows), 8); to++ {
				hold(t, rows[from:to])
				if _, e := points.Show(rows[from:to], 0, api.Right); e == api.ErrNone {
					nowhere++
				}
			}
		}
	}
	if nowhere < 100 {
		t.Errorf("in only %d of all rows a place is shown nowhere", nowhere)
	}
}

// R1: no call dies of rows that no layout makes.
func TestOddRows(t *testing.T) {
	for seed := range 4000 {
		var rows []api.Row
		for i := range 1 + mix(seed, 4) {
			k := 100*seed + 10*i
			r := api.Row{Start: mix(k, 5) - 1, End: mix(k+1, 6) - 1, Wrapped: mix(k+2, 2) == 0, Width: mix(k+3, 3)}
			for col := range mix(k+4, 5) {
				r.Cells = append(r.Cells, api.Cell{Kind: mix(k+17*col, 8) - 1, At: mix(k+19*col, 5) - 1, Width: mix(k+23*col, 4) - 1})
			}
			rows = append(rows, r)
		}
		hold(t, rows)
	}
	for _, end := range []int{math.MinInt, math.MaxInt} {
		rows := []api.Row{{End: end}}
		if n, e := points.Place(rows, api.Point{}); n != end || e != api.OK {
			t.Errorf("Place: %d, %v", n, e)
		}
		p, e := points.Show(rows, math.MaxInt, api.Left)
		if want := map[bool]api.Errno{true: api.OK, false: api.ErrArg}[end > 0]; p != (api.Point{}) || e != want {
			t.Errorf("Show: %v, %v, not %v", p, e, want)
		}
	}
}

// R3, R6: rows stay as they are, spare room too; two answers share no memory.
func TestNothingIsShared(t *testing.T) {
	rows := rowsOf(t, viewOf(t, "  ab cd ef\n\tgh", []api.Inlay{{ID: 1, At: 4, Text: "xy"}}, list(8, 9), 4, 6))
	room := append(make([]api.Row, 0, 20), rows...)
	for i := range room {
		room[i].Cells = append(make([]api.Cell, 0, 30), rows[i].Cells...)
	}
	hold(t, room)
	one, two := points.Valid(room), points.Valid(room)
	clear(one[:cap(one)])
	if !slices.Equal(two, points.Valid(rows)) {
		t.Errorf("two answers share: %v", two)
	}
	same := func(a, b api.Row) bool {
		return slices.Equal(a.Cells, b.Cells) && a.Start == b.Start && a.End == b.End && a.Buffer == b.Buffer && a.Wrapped == b.Wrapped && a.Folded == b.Folded && a.Width == b.Width
	}
	if !slices.EqualFunc(room, rows, same) || !slices.EqualFunc(room[len(room):20], make([]api.Row, 20-len(room)), same) {
		t.Errorf("rows have changed: %v", room)
	}
	for i, r := range room {
		if spare := r.Cells[len(r.Cells):30]; !slices.Equal(spare, make([]api.Cell, len(spare))) {
			t.Errorf("%d: spare room has changed", i)
		}
	}
}

// 24.1 to 24.3: of the longest buffer, of one line in many rows, and of many lines.
func TestLongest(t *testing.T) {
	for s, w := range map[string]int{strings.Repeat("a", api.MaxText): 7, strings.Repeat("\n", api.MaxText): 3} {
		rows := rowsOf(t, viewOf(t, s, nil, nil, 4, w))
		valid := points.Valid(rows)
		if len(valid) != api.MaxText+1 {
			t.Fatalf("%d valid points", len(valid))
		}
		for place := 0; place <= api.MaxText; place += 1999 {
			p, e := points.Show(rows, place, api.Left)
			if n, f := points.Place(rows, p); p != valid[place] || n != place || e != api.OK || f != api.OK {
				t.Errorf("%d is shown at %v, %v, its place is %d, %v", place, p, e, n, f)
			}
		}
	}
}
