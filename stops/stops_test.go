package stops_test

import (
	"math"
	"slices"
	"testing"

	"bodkin/api"
	"bodkin/stops"
	"bodkin/width"
)

const (
	wide = 0x4e00 // takes two cells by the plain table
	none = 0x301  // takes none
)

// tables are tables of all kinds: the plain one, such as tell of tabs what is not so, and those of no range.
func tables(t *testing.T) []*width.Table {
	t.Helper()
	l := []*width.Table{width.Plain(), nil, {}}
	tab := []width.Range{{From: api.TabRune, To: api.TabRune}}
	all := []width.Range{{From: 0, To: math.MaxInt32}}
	for _, x := range [][2][]width.Range{{tab, nil}, {nil, tab}, {all, nil}, {nil, all}} {
		w, e := width.New(x[0], x[1])
		if e != api.OK {
			t.Fatal(e)
		}
		l = append(l, w)
	}
	return l
}

// cellOf is a place's cell, by the words of the document: a tab's end is looked for cell by cell.
func cellOf(t *width.Table, line []rune, tab, at int) int {
	if at == 0 {
		return 0
	}
	cell := cellOf(t, line, tab, at-1)
	switch {
	case line[at-1] != '\t':
		return cell + t.Of(line[at-1])
	case cell >= 64:
		return cell + 1
	}
	end := cell + 1
	for end%tab != 0 {
		end++
	}
	return end
}

// placeOf is a cell's place and how much is more, by the words of the document, of the cells of all places.
func placeOf(at []int, cell int) (int, int, api.Errno) {
	if cell < 0 || cell > at[len(at)-1] {
		return 0, 0, api.ErrArg
	}
	for place := len(at) - 1; ; place-- {
		if at[place] <= cell {
			return place, cell - at[place], api.OK
		}
	}
}

// places are the cells of all places of a line.
func places(t *width.Table, line []rune, tab int) []int {
	var l []int
	for at := range len(line) + 1 {
		l = append(l, cellOf(t, line, tab, at))
	}
	return l
}

// hold tells what is wrong with what is told of a line.
func hold(t *testing.T, w *width.Table, line []rune, tab int) {
	t.Helper()
	at := places(w, line, tab)
	sizes, e := stops.Sizes(w, line, tab)
	if e != api.OK || len(sizes) != len(line) {
		t.Fatalf("Sizes(%q, %d): %v, %v", line, tab, sizes, e)
	}
	for i, n := range sizes {
		if n != at[i+1]-at[i] {
			t.Fatalf("Sizes(%q, %d): %v, not of the cells %v", line, tab, sizes, at)
		}
	}
	for place, want := range at {
		if cell, e := stops.Cell(w, line, stops.Ask{Tab: tab, At: place}); cell != want || e != api.OK {
			t.Fatalf("Cell(%q, %d, %d): %d, %v, not %d", line, tab, place, cell, e, want)
		}
	}
	for _, place := range []int{math.MinInt, -1, len(line) + 1, math.MaxInt} {
		if cell, e := stops.Cell(w, line, stops.Ask{Tab: tab, At: place}); cell != 0 || e != api.ErrArg {
			t.Fatalf("Cell(%q, %d, %d): %d, %v", line, tab, place, cell, e)
		}
	}
	end := at[len(at)-1]
	ask := []int{math.MinInt, -2, end + 2, math.MaxInt}
	for cell := -1; cell <= end+1; cell++ {
		ask = append(ask, cell)
	}
	for _, cell := range ask {
		place, more, e := stops.Place(w, line, stops.Ask{Tab: tab, At: cell})
		if p, m, f := placeOf(at, cell); place != p || more != m || e != f {
			t.Fatalf("Place(%q, %d, %d): %d, %d, %v, not %d, %d, %v", line, tab, cell, place, more, e, p, m, f)
		}
	}
}

// lines calls do with every line of at most n of some runes.
func lines(n int, runes []rune, do func([]rune)) {
	var grow func(l []rune)
	grow = func(l []rune) {
		do(l)
		if len(l) == n {
			return
		}
		for _, r := range runes {
			grow(append(slices.Clone(l), r))
		}
	}
	grow(nil)
}

// mix is a number from 0 to below n that is hard to foresee and ever the same.
func mix(seed, n int) int {
	x := uint64(seed)*0x9e3779b97f4a7c15 + 0x632be59bd9b4e019
	x ^= x >> 29
	x *= 0xbf58476d1ce4e5b9
	x ^= x >> 32
	return int(x % uint64(n))
}

// some is a line of n runes, about every third of them a tab.
func some(n, seed int) []rune {
	kinds := []rune{'\t', '\t', 'a', ' ', wide, none, '\n', 0x1f600, api.Bad, -1}
	var l []rune
	for i := range n {
		l = append(l, kinds[mix(1000*seed+i, len(kinds))])
	}
	return l
}

// The document's example.
func TestExample(t *testing.T) {
	line := []rune("a\tb")
	l, e := stops.Sizes(width.Plain(), line, 4)
	if !slices.Equal(l, []int{1, 3, 1}) || e != api.OK {
		t.Errorf("Sizes: %v, %v", l, e)
	}
	place, more, e := stops.Place(width.Plain(), line, stops.Ask{Tab: 4, At: 2})
	if place != 1 || more != 1 || e != api.OK {
		t.Errorf("Place: %d, %d, %v", place, more, e)
	}
}

// 17.1: what tabs take, by where they begin.
func TestTabs(t *testing.T) {
	p := width.Plain()
	for tab := 1; tab <= api.MaxTab; tab++ {
		for ahead := range 140 {
			line := append(slices.Repeat([]rune{'x'}, ahead), '\t', '\t')
			l, e := stops.Sizes(p, line, tab)
			if e != api.OK || len(l) != ahead+2 {
				t.Fatalf("Sizes: %v, %v", l, e)
			}
			want := 1
			if ahead < 64 {
				want = tab - ahead%tab
			}
			if l[ahead] != want {
				t.Fatalf("the tab %d, at the cell %d: %d, not %d", tab, ahead, l[ahead], want)
			}
			want = 1
			if n := ahead + l[ahead]; n < 64 {
				want = tab // it begins at a stop
			}
			if l[ahead+1] != want {
				t.Fatalf("the tab %d, behind one at the cell %d: %d, not %d", tab, ahead, l[ahead+1], want)
			}
		}
	}
}

// 17.1: the last tab that reaches a stop may do so behind api.MaxScan; where it begins is told in cells, not in runes.
func TestTabsAtTheEndOfScan(t *testing.T) {
	for i, x := range []struct {
		ahead []rune
		tab   int
		want  []int
	}{
		{slices.Repeat([]rune{'x'}, 63), 8, []int{1, 1, 1}},
		{slices.Repeat([]rune{'x'}, 63), 7, []int{7, 1, 1}},
		{slices.Repeat([]rune{'x'}, 63), 16, []int{1, 1, 1}},
		{slices.Repeat([]rune{'x'}, 63), 15, []int{12, 1, 1}},
		{slices.Repeat([]rune{'x'}, 64), 15, []int{1, 1, 1}},
		{slices.Repeat([]rune{'x'}, 61), 3, []int{2, 3, 1}},
		{slices.Repeat([]rune{wide}, 31), 16, []int{2, 1, 1}},
		{slices.Repeat([]rune{wide}, 32), 16, []int{1, 1, 1}},
		{slices.Repeat([]rune{none}, 100), 16, []int{16, 16, 16}},
		{slices.Repeat([]rune{'\t'}, 4), 16, []int{1, 1, 1}},
		{slices.Repeat([]rune{'\t'}, 3), 16, []int{16, 1, 1}},
	} {
		l, e := stops.Sizes(width.Plain(), slices.Concat(x.ahead, []rune("\t\t\t")), x.tab)
		if e != api.OK || len(l) != len(x.ahead)+3 || !slices.Equal(l[len(x.ahead):], x.want) {
			t.Errorf("%d: %v, %v, not %v behind", i, l, e, x.want)
		}
	}
}

// 17.1, 17.2
func TestEveryShortLine(t *testing.T) {
	p := width.Plain()
	lines(5, []rune{'a', '\t', wide, none}, func(line []rune) {
		for _, tab := range []int{1, 2, 3, 4, 16} {
			hold(t, p, line, tab)
		}
	})
}

// 17.1, 17.2: by any table a tab takes what is left up to its stop, and each other rune what the table says.
func TestEveryTable(t *testing.T) {
	for _, w := range tables(t) {
		lines(4, []rune{'a', '\t', wide, none}, func(line []rune) {
			for _, tab := range []int{1, 3, 4} {
				hold(t, w, line, tab)
			}
		})
	}
}

// 17.1, 17.2
func TestLongLines(t *testing.T) {
	p := width.Plain()
	for seed := range 300 {
		hold(t, p, some(mix(seed, 120), seed), 1+mix(seed+1, api.MaxTab))
	}
}

// 17.1, 17.2: of a line without runes there is one place, at the cell 0.
func TestEmptyLine(t *testing.T) {
	for _, line := range [][]rune{nil, {}} {
		for _, w := range tables(t) {
			for tab := 1; tab <= api.MaxTab; tab++ {
				hold(t, w, line, tab)
			}
		}
	}
}

// 17.1, 17.2: the size of tabs is looked at whatever the line is and whatever is asked for.
func TestWrongTabs(t *testing.T) {
	for _, line := range [][]rune{nil, {'a'}, {'\t', 'a'}} {
		for _, tab := range []int{math.MinInt, -4, -1, 0, api.MaxTab + 1, math.MaxInt} {
			if l, e := stops.Sizes(width.Plain(), line, tab); len(l) > 0 || e != api.ErrArg {
				t.Errorf("Sizes(%q, %d): %v, %v", line, tab, l, e)
			}
			for _, at := range []int{-1, 0, 1, 9} {
				q := stops.Ask{Tab: tab, At: at}
				if cell, e := stops.Cell(width.Plain(), line, q); cell != 0 || e != api.ErrArg {
					t.Errorf("Cell(%q, %v): %d, %v", line, q, cell, e)
				}
				if place, more, e := stops.Place(width.Plain(), line, q); place != 0 || more != 0 || e != api.ErrArg {
					t.Errorf("Place(%q, %v): %d, %d, %v", line, q, place, more, e)
				}
			}
		}
		for _, tab := range []int{1, api.MaxTab} {
			hold(t, nil, line, tab)
		}
	}
}

// 17.2: of several places with one cell the last one is told, also at the line's end.
func TestPlaceOfRunesWithoutACell(t *testing.T) {
	line := []rune{none, none, 'a', none, wide, none, none}
	for cell, want := range [][2]int{{2, 0}, {4, 0}, {4, 1}, {7, 0}} {
		place, more, e := stops.Place(width.Plain(), line, stops.Ask{Tab: 4, At: cell})
		if place != want[0] || more != want[1] || e != api.OK {
			t.Errorf("Place(%d): %d, %d, %v, not %v", cell, place, more, e, want)
		}
	}
	place, more, e := stops.Place(width.Plain(), []rune{none, none}, stops.Ask{Tab: 1})
	if place != 2 || more != 0 || e != api.OK {
		t.Errorf("Place of the cell 0, where no rune takes one: %d, %d, %v", place, more, e)
	}
}

// 17.3
func TestTabsEndAtStops(t *testing.T) {
	for seed := range 500 {
		line, tab := some(mix(seed, 90), seed), 1+mix(seed+1, api.MaxTab)
		l, e := stops.Sizes(width.Plain(), line, tab)
		if e != api.OK {
			t.Fatal(e)
		}
		cell := 0
		for i, n := range l {
			end := cell + n
			switch {
			case line[i] != '\t':
			case n < 1 || n > tab || cell < api.MaxScan && end%tab != 0 || cell >= api.MaxScan && n != 1:
				t.Fatalf("the tab %d of %q, from the cell %d to %d", tab, line, cell, end)
			}
			cell = end
		}
	}
}

// 17.4
func TestThereAndBack(t *testing.T) {
	p := width.Plain()
	for seed := range 300 {
		line, tab := some(mix(seed, 90), seed), 1+mix(seed+1, api.MaxTab)
		for at := range len(line) + 1 {
			cell, e := stops.Cell(p, line, stops.Ask{Tab: tab, At: at})
			place, more, f := stops.Place(p, line, stops.Ask{Tab: tab, At: cell})
			if e != api.OK || f != api.OK || place < at || more != 0 {
				t.Fatalf("%q, the tab %d: Place of the cell %d of %d: %d, %d", line, tab, cell, at, place, more)
			}
			if back, _ := stops.Cell(p, line, stops.Ask{Tab: tab, At: place}); back != cell {
				t.Fatalf("%q, the tab %d: the place %d has the cell %d, not %d", line, tab, place, back, cell)
			}
			if next, e := stops.Cell(p, line, stops.Ask{Tab: tab, At: place + 1}); e == api.OK && next == cell {
				t.Fatalf("%q, the tab %d: %d is not the last place of the cell %d", line, tab, place, cell)
			}
		}
		end, _ := stops.Cell(p, line, stops.Ask{Tab: tab, At: len(line)})
		for cell := range end + 1 {
			place, more, e := stops.Place(p, line, stops.Ask{Tab: tab, At: cell})
			back, f := stops.Cell(p, line, stops.Ask{Tab: tab, At: place})
			if e != api.OK || f != api.OK || more < 0 || back+more != cell {
				t.Fatalf("%q, the tab %d: Cell of the place %d of %d: %d, and %d more", line, tab, place, cell, back, more)
			}
		}
	}
}

// R3, R6: a line stays as it is, spare room too; an answer is shared with no other one.
func TestNothingIsShared(t *testing.T) {
	room := []rune("a\tb\tc\td")
	was := slices.Clone(room)
	line := room[:4]
	one, e := stops.Sizes(width.Plain(), line, 4)
	two, f := stops.Sizes(width.Plain(), line, 4)
	if e != api.OK || f != api.OK || !slices.Equal(one, two) {
		t.Fatalf("%v, %v; %v, %v", one, e, two, f)
	}
	hold(t, width.Plain(), line, 4)
	if !slices.Equal(room, was) {
		t.Errorf("a line has changed: %q", room)
	}
	clear(one[:cap(one)])
	if !slices.Equal(two, []int{1, 3, 1, 3}) {
		t.Errorf("two answers share: %v", two)
	}
	hold(t, width.Plain(), line, 4)
}
