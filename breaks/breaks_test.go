package breaks_test

import (
	"math"
	"slices"
	"testing"

	"bodkin/api"
	"bodkin/breaks"
	"bodkin/cells"
	"bodkin/width"
)

const (
	wide = 0x4e00 // takes two cells
	none = 0x301  // takes none
)

// line are a text's cells.
func line(s string) []api.Cell {
	l, _ := cells.Of(width.Plain(), []cells.Part{{Kind: api.Plain, At: 5, Runes: []rune(s)}}, 4)
	return l
}

// wideOf is how wide cells are together.
func wideOf(l []api.Cell) int {
	n := 0
	for _, c := range l {
		n += c.Width
	}
	return n
}

// blankOf tells whether a cell is blank.
func blankOf(c api.Cell) bool { return c.Rune == 32 || c.Rune == 9 }

// blankAll tells whether all cells are blank.
func blankAll(l []api.Cell) bool {
	for _, c := range l {
		if !blankOf(c) {
			return false
		}
	}
	return true
}

// fitOf is how many cells fit into a room, by the words of the document: the cells from the first one on are held against it one more each time.
func fitOf(l []api.Cell, room int) int {
	if wideOf(l) <= room {
		return len(l)
	}
	n := 0
	for n < len(l) && wideOf(l[:n+1]) <= room {
		n++
	}
	if n == 0 && len(l) > 0 {
		n = 1
		for n < len(l) && l[n].Width == 0 {
			n++
		}
	}
	return n
}

// boundaries are the places of a line's boundaries, by the words of the document.
func boundaries(l []api.Cell) []int {
	var all []int
	for p := 1; p < len(l); p++ {
		if blankOf(l[p-1]) && !blankOf(l[p]) && l[p].Width > 0 {
			all = append(all, p)
		}
	}
	return all
}

// takesOf is how many cells a row takes, by the words of the document.
func takesOf(l []api.Cell, room int) int {
	if wideOf(l) <= room {
		return len(l)
	}
	n := fitOf(l, room)
	takes := n
	for _, p := range boundaries(l) {
		if p <= n {
			takes = p
		}
	}
	return takes
}

// allOf is how many cells each row takes, by the words of the document.
func allOf(l []api.Cell, first, rest int) []int {
	n := takesOf(l, first)
	if blankAll(l[:n]) && fitOf(l, first) > n {
		n = fitOf(l, first)
	}
	all := []int{n}
	for l = l[n:]; len(l) > 0; l = l[n:] {
		n = takesOf(l, rest)
		all = append(all, n)
	}
	return all
}

// hold tells what is wrong with what is told of a line.
func hold(t *testing.T, l []api.Cell, first, rest int) {
	t.Helper()
	for _, room := range []int{first, rest} {
		if n := breaks.Takes(l, room); n != takesOf(l, room) {
			t.Fatalf("Takes(%v, %d): %d, not %d", l, room, n, takesOf(l, room))
		}
	}
	if all := breaks.All(l, first, rest); !slices.Equal(all, allOf(l, first, rest)) {
		t.Fatalf("All(%v, %d, %d): %v, not %v", l, first, rest, all, allOf(l, first, rest))
	}
	ahead := 0
	for ahead < len(l) && blankOf(l[ahead]) {
		ahead++
	}
	if n := breaks.Indent(l); n != min(wideOf(l[:ahead]), 8) {
		t.Fatalf("Indent(%v): %d", l, n)
	}
}

// kinds are cells of all kinds: blank or not, and of widths that the tables of layer 2 can tell.
func kinds() []api.Cell {
	return []api.Cell{
		{Rune: 'a', Kind: api.Plain, Width: 1, At: 3},
		{Rune: ' ', Kind: api.Plain, Width: 1, At: 4},
		{Rune: wide, Kind: api.Virt, Width: 2, At: 5},
		{Rune: none, Kind: api.Plain, At: 6},
		{Rune: '\t', Kind: api.Virt, Width: 1, At: 7},
		{Rune: ' ', Kind: api.Plain, Width: 2, At: 8},
		{Rune: ' ', Kind: api.Filler, Width: 1, At: 9},
		{Rune: ' ', Kind: api.Virt, At: 10},
		{Rune: api.Placeholder, Kind: api.Folded, Width: 1, At: 11},
	}
}

// lines calls do with every line of at most n of some cells.
func lines(n int, some []api.Cell, do func([]api.Cell)) {
	var grow func(l []api.Cell)
	grow = func(l []api.Cell) {
		do(l)
		if len(l) == n {
			return
		}
		for _, c := range some {
			grow(append(slices.Clone(l), c))
		}
	}
	grow(nil)
}

// mix is a number from 0 to below n that is hard to foresee and ever the same.
func mix(seed, n int) int {
	x := uint64(seed)*0x9e3779b97f4a7c15 + 0x632be59bd9b4e019
	x ^= x >> 29
	x *= 0xbf58476d1ce4e5b9
	x ^= x >> 32
	return int(x % uint64(n))
}

// some is a line of n cells, of few kinds or of many.
func some(n, seed int) []api.Cell {
	k := kinds()[:2+mix(seed, 8)]
	var l []api.Cell
	for i := range n {
		l = append(l, k[mix(1000*seed+i, len(k))])
	}
	return l
}

// The document's example.
func TestExample(t *testing.T) {
	if n := breaks.Takes(line("ab cd"), 4); n != 3 {
		t.Errorf("Takes: %d", n)
	}
	if all := breaks.All(line("ab cd"), 4, 4); !slices.Equal(all, []int{3, 2}) {
		t.Errorf("All: %v", all)
	}
}

// 19.1: an indent is how wide the blank cells ahead are, of whatever kind, but 8 at most.
func TestIndent(t *testing.T) {
	for s, want := range map[string]int{
		"": 0, "a": 0, "a  ": 0, " a": 1, "  a b": 2, "    ": 4,
		"\ta": 4, " \ta": 4, "\t a": 5, "\t\ta": 8, "\t   a": 7, "\t    a": 8, "\t     a": 8,
		"       a": 7, "        a": 8, "         a": 8, "               ": 8,
		"\u00a0a": 0, "\na": 0, "\u0301 a": 0, " \u0301a": 1, " \u0301 a": 1, "\u3000a": 0,
	} {
		if n := breaks.Indent(line(s)); n != want {
			t.Errorf("Indent(%q): %d, not %d", s, n, want)
		}
	}
	all := kinds()
	for i, want := range []int{0, 1, 0, 0, 1, 2, 1, 0, 0} {
		if n := breaks.Indent(all[i : i+1]); n != want {
			t.Errorf("Indent(%v): %d, not %d", all[i], n, want)
		}
	}
	blanks := []api.Cell{all[4], all[6], all[5], all[7], all[1], all[0], all[1]}
	if n := breaks.Indent(blanks); n != 5 {
		t.Errorf("Indent(%v): %d, not 5", blanks, n)
	}
}

// 19.1
func TestTakes(t *testing.T) {
	for i, x := range []struct {
		s          string
		room, want int
	}{
		{"", 0, 0}, {"", -1, 0}, {"", 9, 0}, {"", math.MinInt, 0}, {"", math.MaxInt, 0},
		{"ab cd", 6, 5}, {"ab cd", 5, 5}, {"ab cd", 4, 3}, {"ab cd", 3, 3}, {"ab cd", 2, 2}, {"ab cd", 1, 1}, {"ab cd", 0, 1}, {"ab cd", -1, 1},
		{"ab cd", math.MaxInt, 5}, {"ab cd", math.MinInt, 1},
		{"ab cd ef", 7, 6}, {"ab cd ef", 6, 6}, {"ab cd ef", 5, 3}, // the last boundary
		{"ab   cd", 6, 5}, {"ab   cd", 5, 5}, {"ab   cd", 4, 4}, {"ab   cd", 3, 3}, // behind all blanks, or within them
		{"  abcd", 5, 2}, {"  abcd", 2, 2}, {"  abcd", 1, 1}, {"  abcd", 6, 6},
		{"abc  ", 4, 4}, {"abc  ", 3, 3},
		{"ab\tcd", 5, 4}, {"ab\tcd", 3, 3}, {"ab\tcd", 6, 6},
		{"ab\u4e00", 3, 2}, {"ab\u4e00", 2, 2}, {"\u4e00b", 1, 1}, {"\u4e00b", 2, 1},
		{" \u4e00b", 3, 1}, {" \u4e00b", 2, 1}, // a boundary that is right at what fits
		{"ae\u0301x", 2, 3}, {"ae\u0301x", 1, 1}, // what takes no room is with what is ahead
		{"\u0301\u0301a", 0, 2}, {"\u0301\u0301a", -1, 2}, {"\u0301\u0301a", 1, 3}, {"\u0301a\u0301", 0, 1},
		{"e\u0301\u0301x", 0, 3}, {"e\u0301\u0301x", -7, 3}, {"\u4e00\u0301\u0301", 1, 3}, {"\u4e00\u0301 ", 1, 2},
		{"a \u0301b", 3, 4}, {"a \u0301bc", 3, 4}, {"a \u0301bc", 2, 3}, // no boundary ahead of what takes no room, nor behind it
		{"x a \u0301bc", 5, 2},
		{"a \u00a0b", 2, 2}, {"a\u00a0bc", 3, 3}, // another rune that looks like a blank is none
	} {
		l := line(x.s)
		if n := breaks.Takes(l, x.room); n != x.want {
			t.Errorf("%d: Takes(%q, %d): %d, not %d", i, x.s, x.room, n, x.want)
		}
		hold(t, l, x.room, x.room)
	}
}

// 19.2
func TestAll(t *testing.T) {
	for i, x := range []struct {
		s           string
		first, rest int
		want        []int
	}{
		{"", 4, 4, []int{0}}, {"", -4, 0, []int{0}},
		{"ab cd ef", 8, 1, []int{8}},
		{"ab cd ef", 7, 2, []int{6, 2}},
		{"ab cd ef", 5, 5, []int{3, 5}},
		{"ab cd ef", 5, 4, []int{3, 3, 2}},
		{"ab cd ef", 2, 9, []int{2, 6}},
		{"ab cd ef", 1, 3, []int{1, 2, 3, 2}},
		{"ab cd ef", 0, 0, []int{1, 1, 1, 1, 1, 1, 1, 1}},
		{"  abcd", 3, 3, []int{3, 3}},           // what more fits is with blanks that are ahead of all
		{"  abcd", 5, 3, []int{5, 1}},           // so also where there is no boundary but behind these
		{"  ab cd", 4, 2, []int{4, 1, 2}},       // blanks alone are a row of their own behind the first row
		{"  ab cd", 5, 2, []int{5, 2}},          // the boundary is at what fits
		{"  ab cd", 6, 2, []int{5, 2}},          // the first row takes more than blanks: it ends at the boundary
		{"  ab", 2, 2, []int{2, 2}},             // no more fit than the blanks
		{"  ab", 1, 4, []int{1, 3}},             // nor here
		{"     ", 3, 3, []int{3, 2}},            // all are blank
		{"     ", 3, 1, []int{3, 1, 1}},         // all are blank
		{" \u4e00\u4e00", 2, 2, []int{1, 1, 1}}, // a wide one does not fit behind the blank
		{" \u4e00\u4e00", 3, 2, []int{2, 1}},
		{"\tab", 5, 3, []int{5, 1}},
		{" \u0301ab", 1, 1, []int{2, 1, 1}}, // a blank and what takes no room: not blank cells alone
		{" \u0301ab", 2, 1, []int{3, 1}},
		{"a\u0301b\u0301", 1, 1, []int{2, 2}},
		{"a\u0301b\u0301", math.MinInt, math.MinInt, []int{2, 2}},
		{"ab cd", math.MinInt, math.MaxInt, []int{1, 4}},
		{"ab cd", math.MaxInt, math.MinInt, []int{5}},
	} {
		l := line(x.s)
		if all := breaks.All(l, x.first, x.rest); !slices.Equal(all, x.want) {
			t.Errorf("%d: All(%q, %d, %d): %v, not %v", i, x.s, x.first, x.rest, all, x.want)
		}
		hold(t, l, x.first, x.rest)
	}
}

// 19.1, 19.2
func TestEveryShortLine(t *testing.T) {
	lines(6, kinds()[:4], func(l []api.Cell) {
		for first := -1; first <= 5; first++ {
			hold(t, l, first, 2)
			hold(t, l, 3, first)
		}
	})
	lines(4, kinds(), func(l []api.Cell) {
		for first := -1; first <= 5; first++ {
			hold(t, l, first, 1)
			hold(t, l, 2, first)
		}
	})
}

// 19.1, 19.2
func TestLongLines(t *testing.T) {
	for seed := range 1500 {
		hold(t, some(mix(seed, 120), seed), mix(seed+1, 40)-2, mix(seed+2, 40)-2)
	}
}

// 19.3, 19.4, 19.5
func TestRows(t *testing.T) {
	for seed := range 1500 {
		l, first, rest := some(mix(seed, 120), seed), mix(seed+1, 30)-2, mix(seed+2, 30)-2
		all := breaks.All(l, first, rest)
		at := 0
		for i, n := range all {
			room := rest
			if i == 0 {
				room = first
			}
			if n < 1 && len(l) > 0 || n > len(l)-at {
				t.Fatalf("All(%v, %d, %d): %v", l, first, rest, all)
			}
			row, behind := l[at:at+n], l[at+n:]
			seen := 0
			for _, c := range row {
				seen += min(c.Width, 1)
			}
			if seen > 1 && wideOf(row) > room {
				t.Fatalf("the row %v of %v is wider than %d", row, l, room)
			}
			if len(behind) > 0 && !slices.Contains(boundaries(l[at:]), n) && wideOf(row)+behind[0].Width <= room {
				t.Fatalf("the row %v of %v has room (%d) for more", row, l, room)
			}
			at += n
		}
		if at != len(l) || len(l) == 0 && len(all) != 1 {
			t.Fatalf("All(%v, %d, %d): %v are not all cells", l, first, rest, all)
		}
	}
}

// 19.2: as many cells as a text may have are broken into rows, of one cell or of many.
func TestGreatLines(t *testing.T) {
	for i, c := range kinds()[:4] {
		l := slices.Repeat([]api.Cell{c}, 2*api.MaxText)
		for _, rest := range []int{0, 2, api.MaxWidth} {
			all := breaks.All(l, api.MaxWidth, rest)
			n := 0
			for _, x := range all {
				n += x
			}
			if n != len(l) {
				t.Errorf("%d, %d: %d of %d cells", i, rest, n, len(l))
			}
		}
	}
}

// R1: no call dies of widths that no cell has, and rows take all cells all the same.
func TestAnyWidths(t *testing.T) {
	var odd []api.Cell
	for i, n := range []int{math.MinInt, -3, 0, 1, 3, math.MaxInt} {
		odd = append(odd, api.Cell{Rune: []rune{'a', ' '}[i%2], Kind: i, Width: n}, api.Cell{Rune: []rune{' ', 'a'}[i%2], Width: n})
	}
	lines(3, odd, func(l []api.Cell) {
		for _, room := range []int{math.MinInt, -1, 0, 2, math.MaxInt} {
			n := 0
			for _, x := range breaks.All(l, room, 2) {
				n += x
			}
			if n != len(l) {
				t.Fatalf("All(%v, %d, 2): %d cells", l, room, n)
			}
			if x := breaks.Takes(l, room); x > len(l) || x < min(1, len(l)) {
				t.Fatalf("Takes(%v, %d): %d", l, room, x)
			}
			if x := breaks.Indent(l); x > api.MaxIndent {
				t.Fatalf("Indent(%v): %d", l, x)
			}
		}
	})
	three := []api.Cell{{Rune: 'a', Width: 3}, {Rune: 'b', Width: -2}, {Rune: 'c', Width: 1}}
	if n := breaks.Takes(three, 2); n != 3 { // together they are not wider
		t.Errorf("Takes(%v, 2): %d", three, n)
	}
	five := slices.Concat(line("xy"), three)
	if all := breaks.All(five, 2, 2); !slices.Equal(all, []int{2, 3}) {
		t.Errorf("All(%v, 2, 2): %v", five, all)
	}
}

// R2
func TestNoCells(t *testing.T) {
	for _, l := range [][]api.Cell{nil, {}} {
		for _, room := range []int{math.MinInt, -1, 0, 1, math.MaxInt} {
			hold(t, l, room, 3)
			hold(t, l, 3, room)
		}
	}
}

// R3, R6: a line stays as it is, spare room too; an answer is shared with no other one.
func TestNothingIsShared(t *testing.T) {
	room := line("  ab cd ef")
	was := slices.Clone(room)
	l := room[:7]
	one, two := breaks.All(l, 4, 2), breaks.All(l, 4, 2)
	want := []int{4, 1, 2}
	if !slices.Equal(one, want) || !slices.Equal(two, want) {
		t.Fatalf("%v, %v", one, two)
	}
	if breaks.Takes(l, 5) != 5 || breaks.Indent(l) != 2 {
		t.Errorf("%d, %d", breaks.Takes(l, 5), breaks.Indent(l))
	}
	clear(one[:cap(one)])
	if !slices.Equal(two, want) || !slices.Equal(breaks.All(l, 4, 2), want) {
		t.Errorf("two answers share: %v", two)
	}
	if !slices.Equal(room, was) {
		t.Errorf("a line has changed: %v", room)
	}
}
