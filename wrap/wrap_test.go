package wrap_test

import (
	"math"
	"slices"
	"testing"

	"bodkin/api"
	"bodkin/breaks"
	"bodkin/cells"
	"bodkin/width"
	"bodkin/wrap"
)

// line are a text's cells: the first rune is at the place 5.
func line(s string) []api.Cell {
	l, _ := cells.Of(width.Plain(), []cells.Part{{Kind: api.Plain, At: 5, Runes: []rune(s)}}, 4)
	return l
}

// text tells of a row's cells: those of an indent as _, what is more of a tab as .
func text(l []api.Cell) string {
	s := ""
	for _, c := range l {
		switch c.Kind {
		case api.Indent:
			s += "_"
		case api.Filler:
			s += "."
		default:
			s += string(c.Rune)
		}
	}
	return s
}

// texts tells of rows.
func texts(rows [][]api.Cell) []string {
	var all []string
	for _, r := range rows {
		all = append(all, text(r))
	}
	return all
}

// hangOf is the hanging indent, by the words of the document.
func hangOf(l []api.Cell, w int) int {
	if n := breaks.Indent(l); w > 0 && w <= 200 && w >= n+2 {
		return n
	}
	return 0
}

// rowsOf are a line's rows, by the words of the document, of the number of cells that each one takes.
func rowsOf(l []api.Cell, w int) [][]api.Cell {
	if w == 0 {
		return [][]api.Cell{slices.Clone(l)}
	}
	var rows [][]api.Cell
	hang := hangOf(l, w)
	at := 0
	for i, n := range breaks.All(l, w, w-hang) {
		var row []api.Cell
		for i > 0 && len(row) < hang {
			row = append(row, api.Cell{Rune: 32, Kind: 5, Width: 1, At: l[at].At})
		}
		rows = append(rows, append(row, l[at:at+n]...))
		at += n
	}
	return rows
}

// widest is how wide the widest row is.
func widest(rows [][]api.Cell) int {
	most := 0
	for _, r := range rows {
		most = max(most, cells.Width(r))
	}
	return most
}

// hold tells what is wrong with what is told of a line.
func hold(t *testing.T, l []api.Cell, w int) {
	t.Helper()
	want := rowsOf(l, w)
	rows, e := wrap.Rows(l, w)
	if e != api.OK || !slices.EqualFunc(rows, want, slices.Equal) {
		t.Fatalf("Rows(%v, %d): %v, %v, not %v", l, w, rows, e, want)
	}
	n, wide, e := wrap.Count(l, w)
	if e != api.OK || n != len(want) || wide != widest(want) {
		t.Fatalf("Count(%v, %d): %d, %d, %v, not of %v", l, w, n, wide, e, want)
	}
	if n := wrap.Hang(l, w); n != hangOf(l, w) {
		t.Fatalf("Hang(%v, %d): %d, not %d", l, w, n, hangOf(l, w))
	}
}

// kinds are cells of all kinds that a line may have, but of an indent.
func kinds() []api.Cell {
	return []api.Cell{
		{Rune: 'a', Kind: api.Plain, Width: 1, At: 3},
		{Rune: ' ', Kind: api.Plain, Width: 1, At: 4},
		{Rune: 0x4e00, Kind: api.Virt, Width: 2, At: 5},
		{Rune: 0x301, Kind: api.Plain, At: 6},
		{Rune: '\t', Kind: api.Virt, Width: 1, At: 7},
		{Rune: ' ', Kind: api.Plain, Width: 2, At: 8},
		{Rune: ' ', Kind: api.Filler, Width: 1, At: 9},
		{Rune: api.Placeholder, Kind: api.Folded, Width: 1, At: 11},
	}
}

// lines calls do with every line of at most n of some cells.
func lines(n int, some []api.Cell, do func([]api.Cell)) {
	var grow func(l []api.Cell)
	grow = func(l []api.Cell) {
		do(l)
		if len(l) == n {
			return
		}
		for _, c := range some {
			grow(append(slices.Clone(l), c))
		}
	}
	grow(nil)
}

// mix is a number from 0 to below n that is hard to foresee and ever the same.
func mix(seed, n int) int {
	x := uint64(seed)*0x9e3779b97f4a7c15 + 0x632be59bd9b4e019
	x ^= x >> 29
	x *= 0xbf58476d1ce4e5b9
	x ^= x >> 32
	return int(x % uint64(n))
}

// some is a line of n cells behind some blanks, of few kinds or of many.
func some(n, seed int) []api.Cell {
	l := slices.Repeat([]api.Cell{{Rune: ' ', Kind: api.Plain, Width: 1, At: seed}}, mix(seed+7, 12))
	k := kinds()[:2+mix(seed, 7)]
	for i := range n {
		c := k[mix(1000*seed+i, len(k))]
		c.At = seed + i
		l = append(l, c)
	}
	return l
}

// The document's example.
func TestExample(t *testing.T) {
	rows, e := wrap.Rows(line("  ab cd"), 5)
	if want := []string{"  ab ", "__cd"}; e != api.OK || !slices.Equal(texts(rows), want) {
		t.Errorf("Rows: %q, %v, not %q", texts(rows), e, want)
	}
}

// 20.1
func TestRows(t *testing.T) {
	for i, x := range []struct {
		s    string
		w    int
		want []string
		wide int
	}{
		{"", 0, []string{""}, 0}, {"", 1, []string{""}, 0}, {"", 200, []string{""}, 0},
		{"ab cd", 0, []string{"ab cd"}, 5},
		{"  ab cd", 0, []string{"  ab cd"}, 7},
		{"ab cd", 5, []string{"ab cd"}, 5},
		{"ab cd", 4, []string{"ab ", "cd"}, 3},
		{"ab cd", 1, []string{"a", "b", " ", "c", "d"}, 1},
		{"  ab cd", 7, []string{"  ab cd"}, 7},
		{"  ab cd", 6, []string{"  ab ", "__cd"}, 5},
		{"  ab cd", 4, []string{"  ab", "__ ", "__cd"}, 4}, // w is the indent and 2 more
		{"  ab cd", 3, []string{"  a", "b ", "cd"}, 3},     // w is less
		{"  ab cd", 2, []string{"  ", "ab", " ", "cd"}, 2},
		{"  abcdefg", 5, []string{"  abc", "__def", "__g"}, 5},
		{"\tabcdef", 6, []string{"\t...ab", "____cd", "____ef"}, 6},
		{"\tab", 5, []string{"\t...a", "b"}, 5},
		{"          abcd", 10, []string{"          ", "________ab", "________cd"}, 10}, // an indent of 8 at most
		{"          abcd", 9, []string{"         ", " abcd"}, 9},
		{"      \u4e00\u4e00", 8, []string{"      \u4e00", "______\u4e00"}, 8},
		{"      \u4e00\u4e00", 7, []string{"      ", "\u4e00\u4e00"}, 6},
		{"\u4e00b", 1, []string{"\u4e00", "b"}, 2}, // a cell that is wider than a row
		{"e\u0301e\u0301", 1, []string{"e\u0301", "e\u0301"}, 1},
		{" ab", 200, []string{" ab"}, 3},
	} {
		rows, e := wrap.Rows(line(x.s), x.w)
		if e != api.OK || !slices.Equal(texts(rows), x.want) {
			t.Errorf("%d: Rows(%q, %d): %q, %v, not %q", i, x.s, x.w, texts(rows), e, x.want)
		}
		n, wide, e := wrap.Count(line(x.s), x.w)
		if e != api.OK || n != len(x.want) || wide != x.wide {
			t.Errorf("%d: Count(%q, %d): %d, %d, %v, not %d, %d", i, x.s, x.w, n, wide, e, len(x.want), x.wide)
		}
		hold(t, line(x.s), x.w)
	}
}

// 20.1: the cells of an indent stand at the place of the first cell behind them, also where that is an inlay's or a placeholder.
func TestIndentCells(t *testing.T) {
	l, e := cells.Of(width.Plain(), []cells.Part{
		{Kind: api.Plain, At: 5, Runes: []rune("  ab ")}, {Kind: api.Virt, At: 40, Runes: []rune("xy ")}, {Kind: api.Folded, At: 60}, {Kind: api.Plain, At: 80, Runes: []rune("cd ")}, {Kind: api.Plain, At: 90, Runes: []rune("\tz")},
	}, 4)
	if e != api.OK {
		t.Fatal(e)
	}
	rows, e := wrap.Rows(l, 5)
	if want := []string{"  ab ", "__xy ", "__\u2026cd", "__ \t.", "__..z"}; e != api.OK || !slices.Equal(texts(rows), want) {
		t.Fatalf("Rows: %q, %v, not %q", texts(rows), e, want)
	}
	for i, at := range []int{0, 40, 60, 82, 90} {
		for k := range 2 {
			if want := (api.Cell{Rune: ' ', Kind: api.Indent, Width: 1, At: at}); i > 0 && rows[i][k] != want {
				t.Errorf("%d: %v, not %v", i, rows[i][:2], want)
			}
		}
	}
	hold(t, l, 5)
}

// 20.1
func TestHang(t *testing.T) {
	for s, indent := range map[string]int{"": 0, "ab": 0, " a": 1, "  ab": 2, "\ta": 4, "       a": 7, "        a": 8, "             a": 8, "    ": 4} {
		for w := -3; w < 210; w++ {
			want := indent
			if w <= 0 || w > 200 || w < indent+2 {
				want = 0
			}
			if n := wrap.Hang(line(s), w); n != want {
				t.Fatalf("Hang(%q, %d): %d, not %d", s, w, n, want)
			}
		}
		for _, w := range []int{math.MinInt, math.MinInt + 1, math.MaxInt} {
			if n := wrap.Hang(line(s), w); n != 0 {
				t.Fatalf("Hang(%q, %d): %d", s, w, n)
			}
		}
	}
}

// 20.1
func TestWrongWidths(t *testing.T) {
	for _, l := range [][]api.Cell{nil, {}, line("a"), line("  ab cd")} {
		for _, w := range []int{math.MinInt, -5, -1, api.MaxWidth + 1, math.MaxInt} {
			if rows, e := wrap.Rows(l, w); len(rows) > 0 || e != api.ErrArg {
				t.Errorf("Rows(%v, %d): %v, %v", l, w, rows, e)
			}
			if n, wide, e := wrap.Count(l, w); n != 0 || wide != 0 || e != api.ErrArg {
				t.Errorf("Count(%v, %d): %d, %d, %v", l, w, n, wide, e)
			}
			if n := wrap.Hang(l, w); n != 0 {
				t.Errorf("Hang(%v, %d): %d", l, w, n)
			}
		}
		for w := range api.MaxWidth + 1 {
			hold(t, l, w)
		}
	}
}

// 20.1
func TestEveryShortLine(t *testing.T) {
	lines(4, kinds(), func(l []api.Cell) {
		for w := range 7 {
			hold(t, l, w)
		}
	})
}

// 20.1
func TestLongLines(t *testing.T) {
	for seed := range 1500 {
		hold(t, some(mix(seed, 120), seed), mix(seed+1, 30))
	}
}

// 20.2
func TestNoRowIsWider(t *testing.T) {
	hung := 0
	for seed := range 1500 {
		l, w := some(mix(seed, 120), seed), 2+mix(seed+1, 30)
		rows, e := wrap.Rows(l, w)
		if _, wide, f := wrap.Count(l, w); e != api.OK || f != api.OK || widest(rows) > w || wide > w {
			t.Fatalf("Rows(%v, %d): %v, %v, %d wide, %v", l, w, rows, e, wide, f)
		}
		if len(rows) > 1 && wrap.Hang(l, w) > 0 {
			hung++
		}
	}
	if hung < 300 {
		t.Errorf("only %d of the lines have a hanging indent", hung)
	}
}

// 20.3
func TestNoCellIsLost(t *testing.T) {
	for seed := range 1500 {
		l, w := some(mix(seed, 120), seed), mix(seed+1, 30)
		rows, e := wrap.Rows(l, w)
		var all []api.Cell
		for _, r := range rows {
			for _, c := range r {
				if c.Kind != api.Indent {
					all = append(all, c)
				}
			}
		}
		if e != api.OK || !slices.Equal(all, l) {
			t.Fatalf("Rows(%v, %d): %v, %v", l, w, rows, e)
		}
	}
}

// 20.1: a line of as many cells as a text may have is wrapped, also where all of it is blank.
func TestGreatLines(t *testing.T) {
	for _, c := range kinds()[:4] {
		l := slices.Repeat([]api.Cell{c}, 2*api.MaxText)
		for _, w := range []int{0, 1, 10, api.MaxWidth} {
			hold(t, l, w)
		}
	}
}

// R1: no call dies of widths that no cell has.
func TestAnyWidths(t *testing.T) {
	var odd []api.Cell
	for _, n := range []int{math.MinInt, -3, 0, 3, math.MaxInt} {
		odd = append(odd, api.Cell{Rune: 'a', Width: n}, api.Cell{Rune: ' ', Width: n})
	}
	lines(3, odd, func(l []api.Cell) {
		for _, w := range []int{0, 1, 2, 9, api.MaxWidth} {
			rows, e := wrap.Rows(l, w)
			n, _, f := wrap.Count(l, w)
			if e != api.OK || f != api.OK || n != len(rows) {
				t.Fatalf("%v, %d: %d rows, %v; %d, %v", l, w, len(rows), e, n, f)
			}
		}
		if n := wrap.Hang(l, 0); n != 0 {
			t.Fatalf("Hang(%v, 0): %d", l, n)
		}
	})
}

// R3, R6: a line stays as it is, spare room too; rows share no memory with it, with each other, or with those of another answer.
func TestNothingIsShared(t *testing.T) {
	for _, w := range []int{0, 3, 5, 9, api.MaxWidth} {
		room := line("  ab cd efgh ij")
		was := slices.Clone(room)
		l := room[:12]
		want := rowsOf(l, w)
		one, e := wrap.Rows(l, w)
		two, f := wrap.Rows(l, w)
		if e != api.OK || f != api.OK || !slices.EqualFunc(one, want, slices.Equal) {
			t.Fatalf("%d: %v, %v, %v", w, one, e, f)
		}
		hold(t, l, w)
		for i := range one {
			clear(one[i][:cap(one[i])])
			if !slices.EqualFunc(one[i+1:], want[i+1:], slices.Equal) {
				t.Fatalf("%d: rows behind %d share its memory: %v", w, i, one)
			}
		}
		clear(one[:cap(one)])
		if !slices.EqualFunc(two, want, slices.Equal) {
			t.Errorf("%d: two answers share: %v", w, two)
		}
		if !slices.Equal(room, was) {
			t.Errorf("%d: a line has changed: %v", w, room)
		}
	}
}
