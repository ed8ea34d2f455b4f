package cells_test

import (
	"math"
	"slices"
	"testing"

	"bodkin/api"
	"bodkin/cells"
	"bodkin/stops"
	"bodkin/width"
)

const (
	wide = 0x4e00 // takes two cells by the plain table
	none = 0x301  // takes none
)

// tables are tables of all kinds: the plain one, such as tell of tabs and placeholders what others don't, and those of no range.
func tables(t *testing.T) []*width.Table {
	t.Helper()
	l := []*width.Table{width.Plain(), nil, {}}
	odd := []width.Range{{From: api.TabRune, To: api.TabRune}, {From: ' ', To: ' '}, {From: api.Placeholder, To: api.Placeholder}}
	for _, x := range [][2][]width.Range{{odd, nil}, {nil, odd}} {
		w, e := width.New(x[0], x[1])
		if e != api.OK {
			t.Fatal(e)
		}
		l = append(l, w)
	}
	return l
}

// made are parts' cells, by the words of the document: one part behind the other, a tab's cells one by one.
func made(t *width.Table, l []cells.Part, tab int) []api.Cell {
	var all []api.Cell
	at := 0 // the cell that is reached
	put := func(c api.Cell) {
		all = append(all, c)
		at += c.Width
	}
	for _, p := range l {
		if p.Kind == api.Folded {
			put(api.Cell{Rune: 0x2026, Kind: api.Folded, Width: t.Of(0x2026), At: p.At})
			continue
		}
		for k, r := range p.Runes {
			place := p.At
			if p.Kind == api.Plain {
				place += k
			}
			if r != '\t' {
				put(api.Cell{Rune: r, Kind: p.Kind, Width: t.Of(r), At: place})
				continue
			}
			stop := at < 64
			put(api.Cell{Rune: '\t', Kind: p.Kind, Width: 1, At: place})
			for stop && at%tab != 0 {
				put(api.Cell{Rune: 32, Kind: api.Filler, Width: 1, At: place})
			}
		}
	}
	return all
}

// hold tells what is wrong with the cells of parts.
func hold(t *testing.T, w *width.Table, l []cells.Part, tab int) {
	t.Helper()
	c, e := cells.Of(w, l, tab)
	if want := made(w, l, tab); e != api.OK || !slices.Equal(c, want) {
		t.Fatalf("Of(%v, %d): %v, %v, not %v", l, tab, c, e, want)
	}
}

// mix is a number from 0 to below n that is hard to foresee and ever the same.
func mix(seed, n int) int {
	x := uint64(seed)*0x9e3779b97f4a7c15 + 0x632be59bd9b4e019
	x ^= x >> 29
	x *= 0xbf58476d1ce4e5b9
	x ^= x >> 32
	return int(x % uint64(n))
}

// some are n parts of a line, of up to 29 runes each, about every third of them a tab.
func some(n, seed int) []cells.Part {
	kinds := []rune{'\t', '\t', 'a', ' ', wide, none, '\n', 0x1f600, api.Bad, -1, api.Placeholder}
	var l []cells.Part
	for i := range n {
		at := 100*seed + 40*i
		p := cells.Part{Kind: []int{api.Plain, api.Virt, api.Folded}[mix(at, 3)], At: mix(at+1, 1000)}
		for k := range mix(at+2, 30) {
			p.Runes = append(p.Runes, kinds[mix(at+3+k, len(kinds))])
		}
		l = append(l, p)
	}
	return l
}

// The document's example.
func TestExample(t *testing.T) {
	c, e := cells.Of(width.Plain(), []cells.Part{{Kind: api.Plain, At: 5, Runes: []rune{'\t'}}}, 4)
	more := api.Cell{Rune: ' ', Kind: api.Filler, Width: 1, At: 5}
	if want := []api.Cell{{Rune: '\t', Kind: api.Plain, Width: 1, At: 5}, more, more, more}; !slices.Equal(c, want) || e != api.OK {
		t.Errorf("Of: %v, %v, not %v", c, e, want)
	}
}

// 18.1: one part of each kind; of a placeholder's runes none is looked at.
func TestOneOfEachKind(t *testing.T) {
	w := width.Plain()
	runes := []rune{'a', wide, none, 'b'}
	for i, x := range []struct {
		part cells.Part
		want []api.Cell
	}{
		{cells.Part{Kind: api.Plain, At: 7, Runes: runes}, []api.Cell{{Rune: 'a', Kind: api.Plain, Width: 1, At: 7}, {Rune: wide, Kind: api.Plain, Width: 2, At: 8}, {Rune: none, Kind: api.Plain, At: 9}, {Rune: 'b', Kind: api.Plain, Width: 1, At: 10}}},
		{cells.Part{Kind: api.Virt, At: 7, Runes: runes}, []api.Cell{{Rune: 'a', Kind: api.Virt, Width: 1, At: 7}, {Rune: wide, Kind: api.Virt, Width: 2, At: 7}, {Rune: none, Kind: api.Virt, At: 7}, {Rune: 'b', Kind: api.Virt, Width: 1, At: 7}}},
		{cells.Part{Kind: api.Folded, At: 7, Runes: runes}, []api.Cell{{Rune: 0x2026, Kind: api.Folded, Width: 1, At: 7}}},
		{cells.Part{Kind: api.Folded, At: 7}, []api.Cell{{Rune: 0x2026, Kind: api.Folded, Width: 1, At: 7}}},
		{cells.Part{Kind: api.Folded, At: 7, Runes: []rune{'\t'}}, []api.Cell{{Rune: 0x2026, Kind: api.Folded, Width: 1, At: 7}}},
		{cells.Part{Kind: api.Plain, At: 7}, nil},
		{cells.Part{Kind: api.Virt, At: 7, Runes: []rune{}}, nil},
	} {
		if c, e := cells.Of(w, []cells.Part{x.part}, 4); e != api.OK || !slices.Equal(c, x.want) {
			t.Errorf("%d: %v, %v, not %v", i, c, e, x.want)
		}
	}
}

// 18.1: a tab takes what all runes ahead of it leave, of whatever part they are.
func TestTabsBehindOtherParts(t *testing.T) {
	tab := cells.Part{Kind: api.Plain, At: 9, Runes: []rune{'\t'}}
	for i, x := range []struct {
		ahead []cells.Part
		want  int
	}{
		{nil, 4},
		{[]cells.Part{{Kind: api.Plain, Runes: []rune{'a'}}}, 3},
		{[]cells.Part{{Kind: api.Virt, At: 9, Runes: []rune{'a', 'b'}}}, 2},
		{[]cells.Part{{Kind: api.Folded, At: 3, Runes: []rune{'a', 'b'}}}, 3},
		{[]cells.Part{{Kind: api.Plain, Runes: []rune{wide}}, {Kind: api.Folded, At: 1}, {Kind: api.Virt, At: 9, Runes: []rune{none}}}, 1},
		{[]cells.Part{{Kind: api.Virt, At: 9, Runes: []rune{'\t'}}}, 4},
		{[]cells.Part{{Kind: api.Virt, At: 9, Runes: slices.Repeat([]rune{'\t'}, 16)}}, 1},
	} {
		c, e := cells.Of(width.Plain(), append(slices.Clone(x.ahead), tab), 4)
		ahead, _ := cells.Of(width.Plain(), x.ahead, 4)
		if e != api.OK || len(c)-len(ahead) != x.want || !slices.Equal(c[:len(ahead)], ahead) {
			t.Errorf("%d: %v, %v: not %d behind %v", i, c, e, x.want, ahead)
		}
		hold(t, width.Plain(), append(slices.Clone(x.ahead), tab), 4)
	}
}

// 18.1: of every line of at most three parts, of one or two runes each.
func TestEveryShortLine(t *testing.T) {
	var parts []cells.Part
	for _, kind := range []int{api.Plain, api.Virt, api.Folded} {
		for _, runes := range [][]rune{{'a'}, {'\t'}, {wide, '\t'}, {'\t', none}, nil} {
			parts = append(parts, cells.Part{Kind: kind, At: len(parts) % 4, Runes: runes})
		}
	}
	var grow func(l []cells.Part)
	grow = func(l []cells.Part) {
		for _, tab := range []int{1, 2, 4, 5} {
			hold(t, width.Plain(), l, tab)
		}
		if len(l) == 3 {
			return
		}
		for _, p := range parts {
			grow(append(slices.Clone(l), p))
		}
	}
	grow(nil)
}

// 18.1
func TestLongLines(t *testing.T) {
	for seed := range 300 {
		for _, w := range tables(t) {
			hold(t, w, some(mix(seed, 9), seed), 1+mix(seed+1, api.MaxTab))
		}
	}
}

// 18.1: widths are the table's, but of tabs and what is more of them.
func TestEveryTable(t *testing.T) {
	l := []cells.Part{{Kind: api.Virt, At: 2, Runes: []rune(" \t")}, {Kind: api.Folded, At: 2}, {Kind: api.Plain, At: 5, Runes: []rune("\t x")}}
	for i, want := range [][]int{
		{1, 1, 1, 1, 1, 1, 1, 1, 1, 1},
		{1, 1, 1, 1, 1, 1, 1, 1, 1, 1},
		{1, 1, 1, 1, 1, 1, 1, 1, 1, 1},
		{0, 1, 1, 1, 1, 0, 1, 1, 1, 1, 0, 1},
		{2, 1, 1, 2, 1, 1, 2, 1},
	} {
		w := tables(t)[i]
		c, e := cells.Of(w, l, 4)
		var got []int
		for _, x := range c {
			got = append(got, x.Width)
		}
		if e != api.OK || !slices.Equal(got, want) {
			t.Errorf("%d: %v, %v, not %v", i, got, e, want)
		}
		hold(t, w, l, 4)
	}
}

// 18.1: places are told as they are, also such as no buffer has.
func TestAnyPlaces(t *testing.T) {
	for _, at := range []int{math.MinInt, -1, 0, api.MaxInt, math.MaxInt} {
		for _, kind := range []int{api.Plain, api.Virt, api.Folded} {
			hold(t, width.Plain(), []cells.Part{{Kind: kind, At: at, Runes: []rune{'a', '\t', 'b'}}}, 4)
		}
	}
}

// 18.1: a wrong size of tabs is told ahead of a wrong kind, wherever that stands.
func TestWrongArguments(t *testing.T) {
	good := cells.Part{Kind: api.Plain, Runes: []rune{'a', '\t'}}
	for _, kind := range []int{math.MinInt, -1, 0, api.Filler, api.Indent, 6, math.MaxInt} {
		bad := cells.Part{Kind: kind, Runes: []rune{'a'}}
		for _, l := range [][]cells.Part{{bad}, {bad, good}, {good, bad}, {good, bad, good}, {{Kind: kind}}} {
			for tab, want := range map[int]api.Errno{math.MinInt: api.ErrArg, -1: api.ErrArg, 0: api.ErrArg, 1: api.ErrForm, 16: api.ErrForm, 17: api.ErrArg, math.MaxInt: api.ErrArg} {
				if c, e := cells.Of(width.Plain(), l, tab); len(c) > 0 || e != want {
					t.Errorf("Of(%v, %d): %v, %v", l, tab, c, e)
				}
			}
		}
	}
	for _, l := range [][]cells.Part{nil, {}, {good}} {
		for _, tab := range []int{math.MinInt, -1, 0, api.MaxTab + 1, math.MaxInt} {
			if c, e := cells.Of(nil, l, tab); len(c) > 0 || e != api.ErrArg {
				t.Errorf("Of(%v, %d): %v, %v", l, tab, c, e)
			}
		}
		for tab := 1; tab <= api.MaxTab; tab++ {
			hold(t, nil, l, tab)
		}
	}
}

// 18.1: all cells are counted, of whatever kind.
func TestWidth(t *testing.T) {
	var l []api.Cell
	n := 0
	for i := range 60 {
		if cells.Width(l) != n {
			t.Fatalf("Width(%v): %d, not %d", l, cells.Width(l), n)
		}
		l = append(l, api.Cell{Rune: 'a', Kind: i % 7, Width: i % 4, At: i})
		n += i % 4
	}
	if cells.Width([]api.Cell{}) != 0 {
		t.Error("Width of no cells")
	}
}

// 18.2
func TestStops(t *testing.T) {
	plain := func(at int) api.Cell { return api.Cell{Rune: 'a', Kind: api.Plain, Width: 1, At: at} }
	virt := func(at int) api.Cell { return api.Cell{Rune: 'v', Kind: api.Virt, Width: 1, At: at} }
	fold := func(at int) api.Cell { return api.Cell{Rune: api.Placeholder, Kind: api.Folded, Width: 1, At: at} }
	more := func(at int) api.Cell { return api.Cell{Rune: ' ', Kind: api.Filler, Width: 1, At: at} }
	for i, x := range []struct {
		l    []api.Cell
		want []bool
	}{
		{nil, nil},
		{[]api.Cell{plain(0), plain(1), plain(1)}, []bool{true, true, true}},
		{[]api.Cell{fold(0), fold(3), fold(3)}, []bool{true, true, true}},
		{[]api.Cell{virt(0)}, []bool{true}},
		{[]api.Cell{virt(9)}, []bool{true}},
		{[]api.Cell{virt(3), virt(3), virt(3)}, []bool{true, false, false}},
		{[]api.Cell{virt(3), virt(4), virt(3)}, []bool{true, true, true}},
		{[]api.Cell{plain(2), virt(3), virt(3), plain(3)}, []bool{true, true, false, true}},
		{[]api.Cell{plain(3), virt(3)}, []bool{true, false}},
		{[]api.Cell{virt(3), plain(3), virt(4)}, []bool{true, true, true}},
		{[]api.Cell{virt(3), plain(4), virt(3)}, []bool{true, true, true}},
		{[]api.Cell{fold(1), virt(1), virt(4), fold(4)}, []bool{true, false, true, true}},
		{[]api.Cell{plain(2), more(2), more(2), virt(3)}, []bool{true, false, false, true}},
		{[]api.Cell{virt(3), more(3), virt(3), plain(3)}, []bool{true, false, false, true}},
		{[]api.Cell{more(0), more(1)}, []bool{false, false}},
	} {
		if s := cells.Stops(x.l); !slices.Equal(s, x.want) {
			t.Errorf("%d: Stops(%v): %v, not %v", i, x.l, s, x.want)
		}
	}
}

// 18.2: of every line of at most four cells of any kinds, at two places.
func TestStopsOfEveryShortLine(t *testing.T) {
	var grow func(l []api.Cell)
	grow = func(l []api.Cell) {
		s := cells.Stops(l)
		if len(s) != len(l) {
			t.Fatalf("Stops(%v): %v", l, s)
		}
		for i, c := range l {
			own := c.Kind == api.Plain || c.Kind == api.Folded
			first := c.Kind == api.Virt && (i == 0 || l[i-1].At != c.At)
			if s[i] != (own || first) {
				t.Fatalf("Stops(%v): %v", l, s)
			}
		}
		if len(l) == 4 {
			return
		}
		for kind := -1; kind <= api.Indent+1; kind++ {
			for at := range 2 {
				grow(append(slices.Clone(l), api.Cell{Rune: 'a', Kind: kind, Width: 1, At: at}))
			}
		}
	}
	grow(nil)
}

// 18.2: what is blank hangs on the rune alone.
func TestBlank(t *testing.T) {
	for kind := -1; kind <= api.Indent+1; kind++ {
		for n := range 3 {
			for r := rune(-2); r < 0x3100; r++ {
				if b := cells.Blank(api.Cell{Rune: r, Kind: kind, Width: n, At: 3}); b != (r == 32 || r == 9) {
					t.Fatalf("Blank(%x): %t", r, b)
				}
			}
		}
	}
}

// 18.3
func TestPlainCells(t *testing.T) {
	type plainRune struct {
		r  rune
		at int
	}
	for seed := range 300 {
		l := some(mix(seed, 9), seed)
		var want, got []plainRune
		for _, p := range l {
			for k, r := range p.Runes {
				if p.Kind == api.Plain {
					want = append(want, plainRune{r, p.At + k})
				}
			}
		}
		c, e := cells.Of(width.Plain(), l, 1+mix(seed+1, api.MaxTab))
		for _, x := range c {
			if x.Kind == api.Plain {
				got = append(got, plainRune{x.Rune, x.At})
			}
		}
		if e != api.OK || !slices.Equal(got, want) {
			t.Fatalf("the plain cells of %v: %v, %v, not %v", l, got, e, want)
		}
	}
}

// 18.4
func TestAsWideAsRunes(t *testing.T) {
	for seed := range 300 {
		l, tab := some(mix(seed, 9), seed), 1+mix(seed+1, api.MaxTab)
		var line []rune
		for _, p := range l {
			if p.Kind == api.Folded {
				line = append(line, api.Placeholder)
			} else {
				line = append(line, p.Runes...)
			}
		}
		for _, w := range tables(t) {
			c, e := cells.Of(w, l, tab)
			n, f := stops.Cell(w, line, stops.Ask{Tab: tab, At: len(line)})
			if e != api.OK || f != api.OK || cells.Width(c) != n {
				t.Fatalf("%v, the tab %d: %d wide, not %d (%v, %v)", l, tab, cells.Width(c), n, e, f)
			}
		}
	}
}

// R3, R6: what is handed in stays, spare room too, and is not kept; an answer is shared with no other one.
func TestNothingIsShared(t *testing.T) {
	runes := []rune("a\tb\tc")
	room := []cells.Part{{Kind: api.Plain, At: 1, Runes: runes[:2]}, {Kind: api.Folded, At: 3, Runes: runes[2:4]}, {Kind: api.Virt, At: 9, Runes: runes[4:]}}
	parts := room[:2]
	want := made(width.Plain(), parts, 4)
	one, e := cells.Of(width.Plain(), parts, 4)
	two, f := cells.Of(width.Plain(), parts, 4)
	if e != api.OK || f != api.OK || !slices.Equal(one, want) || !slices.Equal(two, want) {
		t.Fatalf("%v, %v; %v, %v", one, e, two, f)
	}
	if string(runes) != "a\tb\tc" || room[2].Kind != api.Virt || room[2].At != 9 || string(room[2].Runes) != "c" {
		t.Errorf("an argument has changed: %v", room)
	}
	for i, p := range []cells.Part{{Kind: api.Plain, At: 1}, {Kind: api.Folded, At: 3}} {
		if room[i].Kind != p.Kind || room[i].At != p.At || len(room[i].Runes) != 2 {
			t.Errorf("an argument has changed: %v", room)
		}
	}
	clear(runes)
	clear(one[:cap(one)])
	if !slices.Equal(two, want) {
		t.Errorf("two answers share: %v", two)
	}
	line := slices.Clone(two)
	s, u := cells.Stops(line[:3]), cells.Stops(line[:3])
	_, _ = cells.Width(line[:3]), cells.Blank(line[0])
	clear(s[:cap(s)])
	if !slices.Equal(line, want) || !slices.Equal(u, []bool{true, true, false}) {
		t.Errorf("%v, %v", line, u)
	}
}
