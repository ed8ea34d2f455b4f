package layout_test

import (
	"math"
	"slices"
	"strings"
	"testing"

	"bodkin/api"
	"bodkin/cells"
	"bodkin/inlays"
	"bodkin/layout"
	"bodkin/rope"
	"bodkin/source"
	"bodkin/width"
	"bodkin/wrap"
)

// mix is a number from 0 to below n that is hard to foresee and ever the same.
func mix(seed, n int) int {
	x := uint64(seed)*0x9e3779b97f4a7c15 + 0x632be59bd9b4e019
	x ^= x >> 29
	x *= 0xbf58476d1ce4e5b9
	x ^= x >> 32
	return int(x % uint64(n))
}

// list are spans, told by their ends.
func list(ends ...int) []api.Span {
	var l []api.Span
	for i := 0; i < len(ends); i += 2 {
		l = append(l, api.Span{From: ends[i], To: ends[i+1]})
	}
	return l
}

// textOf is a text of a buffer, inlays and hidden spans.
func textOf(t *testing.T, s string, l []api.Inlay, hidden []api.Span) source.Text {
	t.Helper()
	r, e := rope.New(s)
	if e != api.OK {
		t.Fatalf("rope.New: %v", e)
	}
	in, e := inlays.New(r.Runes(), l)
	if e != api.OK {
		t.Fatalf("inlays.New(%d, %v): %v", r.Runes(), l, e)
	}
	return source.Text{Rope: r, Inlays: in, Hidden: hidden}
}

// show tells of cells: an inlay's as <x>, placeholders as #, fillers as _, those of an indent as -.
func show(l []api.Cell) string {
	s := ""
	for _, c := range l {
		switch c.Kind {
		case api.Virt:
			s += "<" + string(c.Rune) + ">"
		case api.Folded:
			s += "#"
		case api.Filler:
			s += "_"
		case api.Indent:
			s += "-"
		default:
			s += string(c.Rune)
		}
	}
	return s
}

// same tells whether two rows are alike.
func same(a, b api.Row) bool {
	if !slices.Equal(a.Cells, b.Cells) {
		return false
	}
	return a.Start == b.Start && a.End == b.End && a.Buffer == b.Buffer && a.Wrapped == b.Wrapped && a.Folded == b.Folded && a.Width == b.Width
}

// behindIndent are a row's cells without those of an indent.
func behindIndent(l []api.Cell) []api.Cell {
	for len(l) > 0 && l[0].Kind == 5 {
		l = l[1:]
	}
	return l
}

// rowsOf are a line's rows, by the words of the document.
func rowsOf(v layout.View, l source.Line) []api.Row {
	line, _ := cells.Of(v.Table, l.Parts, v.Tab)
	wrapped, _ := wrap.Rows(line, v.Width)
	runes := []rune(v.Text.Rope.Text())
	starts := []int{}
	for _, own := range wrapped {
		if own = behindIndent(own); len(own) > 0 {
			starts = append(starts, own[0].At)
		} else {
			starts = append(starts, l.From)
		}
	}
	var all []api.Row
	for i, own := range wrapped {
		r := api.Row{Cells: own, Start: starts[i], End: append(starts, l.To)[i+1], Wrapped: i > 0}
		for _, c := range runes[:r.Start] {
			if c == '\n' {
				r.Buffer++
			}
		}
		for _, c := range own {
			r.Width += c.Width
			r.Folded = r.Folded || c.Kind == 3
		}
		all = append(all, r)
	}
	return all
}

// hold tells what is wrong with the rows of a view that is right.
func hold(t *testing.T, v layout.View) {
	t.Helper()
	if e := layout.Check(v); e != api.OK {
		t.Fatalf("Check of %v: %v", v, e)
	}
	all, e := layout.Rows(v)
	if e != api.OK {
		t.Fatalf("Rows of %v: %v", v, e)
	}
	lines, _ := source.All(v.Text)
	var want []api.Row
	for _, l := range lines {
		own := rowsOf(v, l)
		if rows, e := layout.Line(v, l); e != api.OK || !slices.EqualFunc(rows, own, same) {
			t.Fatalf("Line of %q, %v: %v, %v, not %v", v.Text.Rope.Text(), l, rows, e, own)
		}
		want = append(want, own...)
	}
	if !slices.EqualFunc(all, want, same) {
		t.Fatalf("Rows of %q, %v: %v, not %v", v.Text.Rope.Text(), v, all, want)
	}
	holdFollows(t, v, all)
}

// hides tells whether the rune at a place is in one of some spans.
func hides(hidden []api.Span, at int) bool {
	return slices.ContainsFunc(hidden, func(x api.Span) bool { return x.From <= at && at < x.To })
}

// holdFollows tells what is wrong with rows among themselves: 23.2 to 23.4.
func holdFollows(t *testing.T, v layout.View, all []api.Row) {
	t.Helper()
	runes := []rune(v.Text.Rope.Text())
	type stood struct {
		r  rune
		at int
	}
	var shown, want []stood
	for i, r := range all {
		for _, c := range r.Cells {
			if c.Kind == api.Plain {
				shown = append(shown, stood{c.Rune, c.At})
			}
		}
		ends := i+1 == len(all) || !all[i+1].Wrapped // its line's last row
		if ends && i+1 < len(all) {
			shown = append(shown, stood{'\n', r.End})
		}
		next := len(runes)
		if i+1 < len(all) {
			next = all[i+1].Start
		}
		switch {
		case r.Start > r.End || r.End > next:
			t.Fatalf("row %d of %q, %v: from %d to %d, the next one from %d", i, string(runes), v, r.Start, r.End, next)
		case r.End != next && (runes[r.End] != '\n' || hides(v.Text.Hidden, r.End) || next != r.End+1 || !ends):
			t.Fatalf("row %d of %q, %v: to %d, the next one from %d", i, string(runes), v, r.End, next)
		case v.Width >= 2 && r.Width > v.Width:
			t.Fatalf("row %d of %q, %v: it is %d wide", i, string(runes), v, r.Width)
		case r.Width != cells.Width(r.Cells):
			t.Fatalf("row %d of %q, %v: Width %d", i, string(runes), v, r.Width)
		}
	}
	for at, r := range runes {
		if !hides(v.Text.Hidden, at) {
			want = append(want, stood{r, at})
		}
	}
	if !slices.Equal(shown, want) {
		t.Fatalf("%q, %v: %v is shown, not %v", string(runes), v, shown, want)
	}
}

// The document's example.
func TestExample(t *testing.T) {
	v := layout.View{Text: textOf(t, "ab cd", nil, nil), Table: width.Plain(), Tab: 4, Width: 3}
	l, e := layout.Rows(v)
	if e != api.OK || len(l) != 2 || l[0].Start != 0 || l[0].End != 3 || l[0].Wrapped || l[1].Start != 3 || l[1].End != 5 || !l[1].Wrapped {
		t.Errorf("Rows: %v, %v", l, e)
	}
	hold(t, v)
}

// row is what is told of a row, by hand: its cells as show tells of them.
type row struct {
	s                  string
	start, end, buffer int
	wrapped, folded    bool
	wide               int
}

// 23.1: rows by hand.
func TestRows(t *testing.T) {
	x := func(at int, s string) api.Inlay { return api.Inlay{ID: 100 + at, At: at, Text: s} }
	for i, c := range []struct {
		s        string
		l        []api.Inlay
		hidden   []api.Span
		tab, wid int
		want     []row
	}{
		{"", nil, nil, 4, 0, []row{{}}},
		{"", nil, nil, 4, 5, []row{{}}},
		{"\n", nil, nil, 4, 5, []row{{}, {start: 1, end: 1, buffer: 1}}},
		{"ab\n\ncd", nil, nil, 4, 0, []row{{s: "ab", end: 2, wide: 2}, {start: 3, end: 3, buffer: 1}, {s: "cd", start: 4, end: 6, buffer: 2, wide: 2}}},
		{"abc", nil, nil, 4, 1, []row{{s: "a", end: 1, wide: 1}, {s: "b", start: 1, end: 2, wrapped: true, wide: 1}, {s: "c", start: 2, end: 3, wrapped: true, wide: 1}}},
		// Examples 1 and 2 of the whole.
		{"ab\ncd", nil, list(1, 4), 4, 0, []row{{s: "a#d", end: 5, folded: true, wide: 3}}},
		{"ab cd", nil, nil, 4, 3, []row{{s: "ab ", end: 3, wide: 3}, {s: "cd", start: 3, end: 5, wrapped: true, wide: 2}}},
		// A hanging indent is no part of the buffer: the row starts behind it.
		{"  ab cd\nx", nil, nil, 4, 5, []row{{s: "  ab ", end: 5, wide: 5}, {s: "--cd", start: 5, end: 7, wrapped: true, wide: 4}, {s: "x", start: 8, end: 9, buffer: 1, wide: 1}}},
		// A tab in two rows: the second one starts at the tab's place too.
		{"\tb", nil, nil, 4, 3, []row{{s: "\t__", wide: 3}, {s: "_b", end: 2, wrapped: true, wide: 2}}},
		{"a\n\t\t", nil, nil, 8, 6, []row{{s: "a", end: 1, wide: 1}, {s: "\t_____", start: 2, end: 2, buffer: 1, wide: 6}, {s: "__\t___", start: 2, end: 3, buffer: 1, wrapped: true, wide: 6}, {s: "____", start: 3, end: 4, buffer: 1, wrapped: true, wide: 4}}},
		// Inlays: at a line's end, alone in a line, and in rows of their own.
		{"a\n\nb", []api.Inlay{x(1, "p"), x(2, "q"), x(4, "r")}, nil, 4, 0, []row{{s: "a<p>", end: 1, wide: 2}, {s: "<q>", start: 2, end: 2, buffer: 1, wide: 1}, {s: "b<r>", start: 3, end: 4, buffer: 2, wide: 2}}},
		{"ab", []api.Inlay{x(1, "pqrs")}, nil, 4, 2, []row{{s: "a<p>", end: 1, wide: 2}, {s: "<q><r>", start: 1, end: 1, wrapped: true, wide: 2}, {s: "<s>b", start: 1, end: 2, wrapped: true, wide: 2}}},
		// Breaks that are hidden are counted, by the place at which a row starts.
		{"a\nb\nc\nd", nil, list(1, 2, 3, 4), 4, 0, []row{{s: "a#b#c", end: 5, folded: true, wide: 5}, {s: "d", start: 6, end: 7, buffer: 3, wide: 1}}},
		{"a\nb\nc\nd", nil, list(1, 2, 3, 4), 4, 1, []row{{s: "a", end: 1, wide: 1}, {s: "#", start: 1, end: 2, wrapped: true, folded: true, wide: 1}, {s: "b", start: 2, end: 3, buffer: 1, wrapped: true, wide: 1}, {s: "#", start: 3, end: 4, buffer: 1, wrapped: true, folded: true, wide: 1}, {s: "c", start: 4, end: 5, buffer: 2, wrapped: true, wide: 1}, {s: "d", start: 6, end: 7, buffer: 3, wide: 1}}},
		{"a\n\n", nil, list(0, 3), 4, 2, []row{{s: "#", end: 3, folded: true, wide: 1}}},
		{"a\n\n", nil, list(2, 3), 4, 2, []row{{s: "a", end: 1, wide: 1}, {s: "#", start: 2, end: 3, buffer: 1, folded: true, wide: 1}}},
		// Widths: of none, of two, and of one that is wider than the row.
		{"e\u0301\u4e00\xff", nil, nil, 4, 0, []row{{s: "e\u0301\u4e00\ufffd", end: 4, wide: 4}}},
		{"\u4e00a", nil, nil, 4, 1, []row{{s: "\u4e00", end: 1, wide: 2}, {s: "a", start: 1, end: 2, wrapped: true, wide: 1}}},
	} {
		v := layout.View{Text: textOf(t, c.s, c.l, c.hidden), Table: width.Plain(), Tab: c.tab, Width: c.wid}
		all, e := layout.Rows(v)
		var got []row
		for _, r := range all {
			got = append(got, row{show(r.Cells), r.Start, r.End, r.Buffer, r.Wrapped, r.Folded, r.Width})
		}
		if e != api.OK || !slices.Equal(got, c.want) {
			t.Errorf("%d: %v, %v, not %v", i, got, e, c.want)
		}
		hold(t, v)
	}
}

// covers calls do with all ways in which spans of n places are hidden.
func covers(n int, do func([]api.Span)) {
	var grow func(at int, l []api.Span)
	grow = func(at int, l []api.Span) {
		if at == n {
			do(l)
			return
		}
		grow(at+1, l)
		for to := at + 1; to <= n; to++ {
			grow(to, append(slices.Clone(l), api.Span{From: at, To: to}))
		}
	}
	grow(0, nil)
}

// 23.1 to 23.4: of short buffers, with all that may be hidden, and inlays at each choice of places.
func TestAllSmall(t *testing.T) {
	kinds := []string{"a", "\n", " ", "\t", "\u4e00", "\u0301"}
	var grow func(n int, s string)
	grow = func(n int, s string) {
		covers(n, func(hidden []api.Span) {
			for places := range 1 << (n + 1) {
				var l []api.Inlay
				for at := range n + 1 {
					if places>>at&1 == 1 {
						l = append(l, api.Inlay{ID: 1 + at, At: at, Text: "x y"[:1+at%3]})
					}
				}
				text := textOf(t, s, l, hidden)
				for w := range 5 {
					hold(t, layout.View{Text: text, Table: width.Plain(), Tab: 1 + (n+w)%4, Width: w})
				}
			}
		})
		if n < 3 {
			for _, k := range kinds {
				grow(n+1, s+k)
			}
		}
	}
	grow(0, "")
}

// some is a view of some seed: of at most n runes, with a break in about one of many of them.
func some(t *testing.T, n, many, seed int) layout.View {
	t.Helper()
	n = mix(seed, n+1)
	kinds := []string{"a", " ", "\t", "\u4e00", "b", "\U0001f600", "\xff", "\u0301", " ", "\u2026"}
	kinds = kinds[:2+mix(seed+4, 9)]
	var b strings.Builder
	for i := range n {
		if mix(10*seed+i, many) == 0 {
			b.WriteString("\n" + strings.Repeat(" ", mix(11*seed+i, 6)))
		} else {
			b.WriteString(kinds[mix(20*seed+i, len(kinds))])
		}
	}
	s := b.String()
	n = len([]rune(s))
	var l []api.Inlay
	for i := range mix(seed+1, api.MaxInlays+1) {
		k := 30*seed + 5*i
		l = append(l, api.Inlay{ID: 1 + i, At: mix(k, n+1), Bias: mix(k+1, 2), Key: mix(k+2, 3), Text: strings.Repeat(kinds[mix(k+3, len(kinds))], 1+mix(k+4, 4))})
	}
	var hidden []api.Span
	for at, k := mix(seed+2, 9), 40*seed; at < n; k += 2 {
		to := min(at+1+mix(k, 20), n)
		hidden = append(hidden, api.Span{From: at, To: to})
		at = to + max(mix(k+1, 40)-10, 0)
	}
	if mix(seed+3, 3) == 0 {
		hidden = nil
	}
	return layout.View{Text: textOf(t, s, l, hidden), Table: width.Plain(), Tab: 1 + mix(seed+5, api.MaxTab), Width: mix(seed+6, 20)}
}

// 23.1 to 23.4: of longer buffers, with short lines and long ones.
func TestAllSome(t *testing.T) {
	wrapped, folded, indented := 0, 0, 0
	for seed := range 600 {
		v := some(t, []int{6, 30, 200, 300}[mix(seed, 4)], []int{2, 5, 30, 1000}[mix(seed+1, 4)], 1000*seed)
		hold(t, v)
		all, _ := layout.Rows(v)
		for _, r := range all {
			if r.Wrapped {
				wrapped++
			}
			if r.Folded {
				folded++
			}
			if len(behindIndent(r.Cells)) < len(r.Cells) {
				indented++
			}
		}
	}
	if min(wrapped, folded, indented) < 1000 {
		t.Errorf("of all rows only %d are wrapped, %d folded, %d indented", wrapped, folded, indented)
	}
}

// 23.1: each width and each size of tabs that may be.
func TestEachSize(t *testing.T) {
	text := textOf(t, "  ab\tcd \u4e00\n\t\tx y\n"+strings.Repeat("word ", 60), []api.Inlay{{ID: 1, At: 4, Text: "in\t"}}, list(6, 8))
	for w := range api.MaxWidth + 1 {
		for tab := 1; tab <= api.MaxTab; tab++ {
			hold(t, layout.View{Text: text, Table: width.Plain(), Tab: tab, Width: w})
		}
	}
}

// 23.1: the table tells of widths; of none each rune takes 1.
func TestTables(t *testing.T) {
	text := textOf(t, "ab\u4e00\u0301c", []api.Inlay{{ID: 1, At: 2, Text: "b"}}, list(3, 4))
	zero, e := width.New([]width.Range{{From: 'a', To: 'a'}}, []width.Range{{From: 'b', To: 'b'}, {From: api.Placeholder, To: api.Placeholder}})
	if e != api.OK {
		t.Fatal(e)
	}
	for i, c := range []struct {
		table *width.Table
		wide  int
	}{{nil, 6}, {width.Plain(), 7}, {zero, 8}} {
		v := layout.View{Text: text, Table: c.table, Tab: 4}
		if l, e := layout.Rows(v); e != api.OK || len(l) != 1 || l[0].Width != c.wide {
			t.Errorf("%d: %v, %v, not %d wide", i, l, e, c.wide)
		}
		for w := range 5 {
			v.Width = w
			hold(t, v)
		}
	}
}

// 23.1: the longest buffer: of one line, of the most lines, and of lines of all lengths.
func TestLongest(t *testing.T) {
	var b strings.Builder
	for i := 0; b.Len() < api.MaxText; i++ {
		b.WriteString(strings.Repeat("a", min(i, api.MaxText-b.Len()-1)) + "\n")
	}
	for s, rows := range map[string]map[int]int{
		strings.Repeat("a", api.MaxText):       {0: 1, 1: api.MaxText, 7: 2858, 200: 100},
		strings.Repeat("\n", api.MaxText):      {0: api.MaxText + 1, 1: api.MaxText + 1, 200: api.MaxText + 1},
		strings.Repeat("abcd ", api.MaxText/5): {0: 1, 5: 4000, 9: 4000, 10: 2000, 200: 100},
		b.String():                             {0: 201},
	} {
		text := textOf(t, s, nil, nil)
		for w, n := range rows {
			l, e := layout.Rows(layout.View{Text: text, Table: width.Plain(), Tab: 4, Width: w})
			if e != api.OK || len(l) != n {
				t.Errorf("%q.., %d: %d rows, %v, not %d", s[:9], w, len(l), e, n)
				continue
			}
			if last := l[n-1]; last.End != api.MaxText || last.Buffer != strings.Count(s, "\n") {
				t.Errorf("%q.., %d: the last row is %v", s[:9], w, last)
			}
		}
	}
}

// 23.1: what is wrong with the text is told ahead of what is wrong with Tab and Width.
func TestErrors(t *testing.T) {
	good := layout.View{Text: textOf(t, "ab\ncd\n", nil, nil), Table: width.Plain(), Tab: 4, Width: 3}
	line, _ := source.At(good.Text, 3)
	wrongSet, _ := inlays.New(5, nil)
	for i, c := range []struct {
		text     source.Text
		tab, wid int
		e        api.Errno
	}{
		{good.Text, 1, 0, api.OK},
		{good.Text, api.MaxTab, api.MaxWidth, api.OK},
		{good.Text, 0, 3, api.ErrArg},
		{good.Text, -1, 3, api.ErrArg},
		{good.Text, api.MaxTab + 1, 3, api.ErrArg},
		{good.Text, math.MinInt, 3, api.ErrArg},
		{good.Text, math.MaxInt, 3, api.ErrArg},
		{good.Text, 4, -1, api.ErrArg},
		{good.Text, 4, api.MaxWidth + 1, api.ErrArg},
		{good.Text, 4, math.MinInt, api.ErrArg},
		{good.Text, 4, math.MaxInt, api.ErrArg},
		{good.Text, 0, -1, api.ErrArg},
		{source.Text{Rope: good.Text.Rope, Inlays: wrongSet}, 4, 3, api.ErrForm},
		{source.Text{Rope: good.Text.Rope, Inlays: wrongSet}, 0, 3, api.ErrForm},
		{source.Text{Rope: good.Text.Rope}, 4, -1, api.ErrForm},
		{source.Text{Inlays: good.Text.Inlays}, 4, 3, api.ErrForm},
		{source.Text{Rope: good.Text.Rope, Inlays: good.Text.Inlays, Hidden: list(3, 2)}, 4, 3, api.ErrForm},
		{source.Text{Rope: good.Text.Rope, Inlays: good.Text.Inlays, Hidden: list(0, 2, 1, 3)}, 17, 201, api.ErrForm},
		{source.Text{Rope: good.Text.Rope, Inlays: good.Text.Inlays, Hidden: list(5, 7)}, 4, 3, api.ErrForm},
	} {
		v := layout.View{Text: c.text, Table: width.Plain(), Tab: c.tab, Width: c.wid}
		if e := layout.Check(v); e != c.e {
			t.Errorf("%d: Check: %v, not %v", i, e, c.e)
		}
		if l, e := layout.Rows(v); e != c.e || (len(l) == 0) != (e != api.OK) {
			t.Errorf("%d: Rows: %v, %v, not %v", i, l, e, c.e)
		}
		for _, own := range []source.Line{line, {}} {
			if l, e := layout.Line(v, own); e != c.e || (len(l) == 0) != (e != api.OK) {
				t.Errorf("%d: Line: %v, %v, not %v", i, l, e, c.e)
			}
		}
	}
}

// 23.1: the zero line has one row without cells, whatever the text is; so has a text of nothing.
func TestNothing(t *testing.T) {
	for _, v := range []layout.View{{Tab: 1}, {Tab: 4, Width: 9}, {Text: textOf(t, "ab\ncd", []api.Inlay{{ID: 1, Text: "x"}}, list(0, 3)), Tab: 4, Width: 1}} {
		if l, e := layout.Line(v, source.Line{}); e != api.OK || len(l) != 1 || !same(l[0], api.Row{}) {
			t.Errorf("Line of %v: %v, %v", v, l, e)
		}
		hold(t, v)
	}
	if l, e := layout.Rows(layout.View{}); e != api.ErrArg || len(l) > 0 {
		t.Errorf("Rows of the zero view: %v, %v", l, e)
	}
}

// R1: no call dies of a line that is none of the text.
func TestOddLines(t *testing.T) {
	v := layout.View{Text: textOf(t, "ab\ncd", nil, nil), Table: width.Plain(), Tab: 4}
	far := []int{math.MinInt, -1, 0, 3, 5, 6, math.MaxInt}
	for w := range 4 {
		v.Width = w
		for _, at := range far {
			for _, kind := range []int{-1, api.Plain, api.Virt, api.Folded, api.Filler, api.Indent, 9} {
				for _, to := range far {
					l, e := layout.Line(v, source.Line{Parts: []cells.Part{{Kind: kind, At: at, Runes: []rune("x\n\t-")}}, From: at, To: to})
					right := kind >= api.Plain && kind <= api.Folded
					if (e == api.OK) != (len(l) > 0) || e == api.OK && !right || !right && e != api.ErrForm {
						t.Fatalf("a part of Kind %d at %d: %v, %v", kind, at, l, e)
					}
				}
			}
			want := api.Row{Start: at, End: 4}
			if at > 2 {
				want.Buffer = 1
			}
			switch l, e := layout.Line(v, source.Line{From: at, To: 4}); {
			case at < 0 || at > 5:
				if e == api.OK || len(l) > 0 {
					t.Fatalf("a line from %d: %v, %v", at, l, e)
				}
			case e != api.OK || len(l) != 1 || !same(l[0], want):
				t.Fatalf("a line from %d: %v, %v, not %v", at, l, e, want)
			}
		}
	}
}

// R3, R6: what is handed in stays as it is, spare room too; rows share no memory with it, with each other, or with those of another answer.
func TestNothingIsShared(t *testing.T) {
	hidden := append(make([]api.Span, 0, 9), list(4, 6, 9, 10)...)
	spare := slices.Clone(hidden[:9])
	v := layout.View{Text: textOf(t, "  ab cd efgh\nij kl\n", []api.Inlay{{ID: 1, At: 7, Text: "xyz"}}, hidden), Table: width.Plain(), Tab: 4}
	for w := range 12 {
		v.Width = w
		lines, _ := source.All(v.Text)
		holdApart(t, func() ([]api.Row, api.Errno) { return layout.Rows(v) })
		for _, l := range lines {
			holdApart(t, func() ([]api.Row, api.Errno) { return layout.Line(v, l) })
		}
		if again, _ := source.All(v.Text); !slices.EqualFunc(lines, again, sameLine) || !slices.Equal(hidden[:9], spare) {
			t.Fatalf("%d: what was handed in has changed", w)
		}
		hold(t, v)
	}
}

// holdApart tells what answers of one call share.
func holdApart(t *testing.T, call func() ([]api.Row, api.Errno)) {
	t.Helper()
	one, _ := call()
	two, _ := call()
	want, e := call()
	if e != api.OK || !slices.EqualFunc(one, want, same) {
		t.Fatalf("%v, %v, %v", one, want, e)
	}
	for k := range one {
		clear(one[k].Cells[:cap(one[k].Cells)])
		if !slices.EqualFunc(one[k+1:], want[k+1:], same) {
			t.Fatalf("rows behind %d share its memory: %v", k, want)
		}
	}
	clear(one[:cap(one)])
	if !slices.EqualFunc(two, want, same) {
		t.Fatalf("two answers share: %v", want)
	}
}

// sameLine tells whether two lines are alike.
func sameLine(a, b source.Line) bool {
	return a.From == b.From && a.To == b.To && slices.EqualFunc(a.Parts, b.Parts, func(p, q cells.Part) bool {
		return p.Kind == q.Kind && p.At == q.At && slices.Equal(p.Runes, q.Runes)
	})
}
