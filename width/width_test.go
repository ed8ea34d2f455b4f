package width_test

import (
	"math"
	"slices"
	"testing"

	"bodkin/api"
	"bodkin/width"
)

// zero and wide are the ranges of the plain table, as the document tells them.
var (
	zero = []width.Range{{From: 0x300, To: 0x36f}, {From: 0x200b, To: 0x200f}, {From: 0xfe00, To: 0xfe0f}}
	wide = []width.Range{{From: 0x1100, To: 0x115f}, {From: 0x2e80, To: 0x303e}, {From: 0x3041, To: 0x4dbf}, {From: 0x4e00, To: 0x9fff}, {From: 0xac00, To: 0xd7a3}, {From: 0xf900, To: 0xfaff}, {From: 0xff00, To: 0xff60}, {From: 0x1f300, To: 0x1f64f}}
)

// cells is a rune's width, by the words of the document.
func cells(zero, wide []width.Range, r rune) int {
	in := func(g width.Range) bool { return g.From <= r && r <= g.To }
	if slices.ContainsFunc(zero, in) {
		return 0
	}
	if slices.ContainsFunc(wide, in) {
		return 2
	}
	return 1
}

// far are runes that no table need think of.
var far = []rune{math.MinInt32, -0x300, -1, 0xd800, 0xdfff, 0x110000, math.MaxInt32}

func table(t *testing.T, zero, wide []width.Range) *width.Table {
	t.Helper()
	x, e := width.New(zero, wide)
	if e != api.OK || x == nil {
		t.Fatalf("New(%x, %x): %v", zero, wide, e)
	}
	return x
}

// apart are n ranges of two runes each, with one rune between.
func apart(n int) []width.Range {
	var l []width.Range
	for i := range n {
		l = append(l, width.Range{From: rune(3 * i), To: rune(3*i + 1)})
	}
	return l
}

// 2.1, 2.2
func TestPlainAtItsEdges(t *testing.T) {
	p := width.Plain()
	for _, g := range zero {
		if p.Of(g.From-1) != 1 || p.Of(g.From) != 0 || p.Of(g.To) != 0 || p.Of(g.To+1) != 1 {
			t.Errorf("%x to %x: %d, %d, %d, %d", g.From, g.To, p.Of(g.From-1), p.Of(g.From), p.Of(g.To), p.Of(g.To+1))
		}
	}
	for _, g := range wide {
		if p.Of(g.From-1) != 1 || p.Of(g.From) != 2 || p.Of(g.To) != 2 || p.Of(g.To+1) != 1 {
			t.Errorf("%x to %x: %d, %d, %d, %d", g.From, g.To, p.Of(g.From-1), p.Of(g.From), p.Of(g.To), p.Of(g.To+1))
		}
	}
	if p.Of('a') != 1 || p.Of(0x4e00) != 2 || p.Of(0x301) != 0 {
		t.Errorf("the document's example: %d, %d, %d", p.Of('a'), p.Of(0x4e00), p.Of(0x301))
	}
}

// 2.1, 2.2
func TestPlainOfEveryRune(t *testing.T) {
	p := width.Plain()
	for r := rune(-1000); r <= 0x110fff; r++ {
		if n := p.Of(r); n != cells(zero, wide, r) {
			t.Fatalf("Of(%x): %d", r, n)
		}
	}
	for _, r := range far {
		if n := p.Of(r); n != 1 {
			t.Errorf("Of(%x): %d", r, n)
		}
	}
}

// 2.1
func TestNewTellsWhatIsLong(t *testing.T) {
	table(t, apart(width.Most), apart(width.Most))
	long, bad := apart(width.Most+1), []width.Range{{From: 2, To: 1}}
	for _, c := range [][2][]width.Range{{long, nil}, {nil, long}, {long, long}, {long, bad}, {bad, long}, {make([]width.Range, width.Most+1), nil}, {nil, make([]width.Range, width.Most+1)}} {
		if x, e := width.New(c[0], c[1]); e != api.ErrLong || x != nil {
			t.Errorf("New of %d and %d ranges: %v, %v", len(c[0]), len(c[1]), x, e)
		}
	}
}

// 2.1
func TestNewTellsWhatIsNotRight(t *testing.T) {
	for _, l := range [][]width.Range{
		{{From: 2, To: 1}},
		{{From: -1, To: 1}},
		{{From: -2, To: -1}},
		{{From: -1, To: -1}},
		{{From: math.MinInt32, To: math.MaxInt32}},
		{{From: math.MaxInt32, To: math.MinInt32}},
		{{From: 1, To: 2}, {From: 2, To: 3}},
		{{From: 1, To: 2}, {From: 1, To: 2}},
		{{From: 1, To: 9}, {From: 3, To: 4}},
		{{From: 5, To: 6}, {From: 1, To: 2}},
		{{From: 1, To: 2}, {From: 4, To: 3}},
		{{From: 1, To: 2}, {From: -1, To: 5}},
		{{From: 0, To: 0}, {From: 0, To: 0}},
		{{From: 1, To: math.MaxInt32}, {From: math.MinInt32, To: 0}},
		append(apart(width.Most-1), width.Range{From: 0, To: math.MaxInt32}),
	} {
		for _, c := range [][2][]width.Range{{l, nil}, {nil, l}, {l, wide}, {zero, l}, {l, l}} {
			if x, e := width.New(c[0], c[1]); e != api.ErrForm || x != nil {
				t.Errorf("New(%x, %x): %v, %v", c[0], c[1], x, e)
			}
		}
	}
}

// 2.1, 2.2
func TestNewOfWhatIsRight(t *testing.T) {
	lists := [][]width.Range{
		nil,
		{},
		{{From: 0, To: 0}},
		{{From: 0, To: 5}},
		{{From: 7, To: 7}},
		{{From: 1, To: 2}, {From: 3, To: 4}}, // they touch
		{{From: 1, To: 1}, {From: 3, To: 3}, {From: 4, To: 4}, {From: 90, To: 99}},
		{{From: 0, To: math.MaxInt32}},
		{{From: 50, To: 0x10ffff}, {From: 0x110000, To: math.MaxInt32}},
		{{From: math.MaxInt32, To: math.MaxInt32}},
		apart(width.Most - 1),
		apart(width.Most),
	}
	runes := append([]rune{0x10fffe, 0x10ffff, 0x110001, math.MaxInt32 - 1}, far...)
	for r := rune(0); r < 3*width.Most+3; r++ {
		runes = append(runes, r)
	}
	for _, z := range lists {
		for _, w := range lists {
			x := table(t, z, w)
			for _, r := range runes {
				if n := x.Of(r); n != cells(z, w, r) {
					t.Fatalf("New(%x, %x): Of(%x): %d", z, w, r, n)
				}
			}
		}
	}
}

// 2.2: what takes no cell comes first.
func TestOfARuneInBoth(t *testing.T) {
	x := table(t, []width.Range{{From: 'a', To: 'c'}}, []width.Range{{From: 'b', To: 'd'}})
	for r, want := range map[rune]int{'a' - 1: 1, 'a': 0, 'b': 0, 'c': 0, 'd': 2, 'e': 1} {
		if n := x.Of(r); n != want {
			t.Errorf("Of(%c): %d", r, n)
		}
	}
}

// 2.2, 2.3
func TestSumIsWhatRunesTakeByThemselves(t *testing.T) {
	p := width.Plain()
	if n := p.Sum([]rune{'a', 0x4e00, 0x301, -1, 0x1f600, 0x200d}); n != 6 {
		t.Errorf("Sum: %d", n)
	}
	if p.Sum(nil) != 0 || p.Sum([]rune{}) != 0 {
		t.Error("Sum of none")
	}
	all := append([]rune{}, far...)
	for r := rune(0); r < 0x3000; r += 7 {
		all = append(all, r)
	}
	for _, x := range []*width.Table{p, table(t, wide, zero), table(t, nil, nil), nil} {
		n := 0
		for _, r := range all {
			n += x.Of(r)
		}
		if x.Sum(all) != n {
			t.Errorf("Sum: %d, not %d", x.Sum(all), n)
		}
		for cut := range all {
			if x.Sum(all[:cut])+x.Sum(all[cut:]) != n {
				t.Fatalf("cut at %d: %d and %d, not %d", cut, x.Sum(all[:cut]), x.Sum(all[cut:]), n)
			}
		}
	}
}

// The sentence behind 2.2.
func TestANilTable(t *testing.T) {
	var x *width.Table
	for _, r := range append([]rune{0, 'a', 0x301, 0x4e00, 0x1f600}, far...) {
		if n := x.Of(r); n != 1 {
			t.Errorf("Of(%x): %d", r, n)
		}
	}
	if x.Sum([]rune{'a', 0x301, 0x4e00}) != 3 || x.Sum(nil) != 0 {
		t.Error("Sum")
	}
}

// R3
func TestATableStaysAsItWas(t *testing.T) {
	z, w := make([]width.Range, 1, 4), make([]width.Range, 1, 4)
	z[0], w[0] = width.Range{From: 'a', To: 'b'}, width.Range{From: 'd', To: 'e'}
	z[:2][1], w[:2][1] = width.Range{From: 'm', To: 'm'}, width.Range{From: 'n', To: 'n'}
	x := table(t, z, w)
	if z[0] != (width.Range{From: 'a', To: 'b'}) || z[:2][1] != (width.Range{From: 'm', To: 'm'}) || w[0] != (width.Range{From: 'd', To: 'e'}) || w[:2][1] != (width.Range{From: 'n', To: 'n'}) {
		t.Errorf("New has changed its arguments: %x, %x", z[:2], w[:2])
	}
	z[0], w[0] = width.Range{From: 'x', To: 'x'}, width.Range{From: 'y', To: 'y'}
	_, _ = append(z, width.Range{From: 'z', To: 'z'}), append(w, width.Range{From: 'z', To: 'z'})
	for r, want := range map[rune]int{'a': 0, 'b': 0, 'c': 1, 'd': 2, 'e': 2, 'm': 1, 'n': 1, 'x': 1, 'y': 1, 'z': 1} {
		if n := x.Of(r); n != want {
			t.Errorf("Of(%c): %d", r, n)
		}
	}
	l := []rune{'a', 'd', 'q'}
	x.Sum(l[:2])
	if !slices.Equal(l, []rune{'a', 'd', 'q'}) {
		t.Errorf("Sum has changed its argument: %x", l)
	}
}

// R6: tables of one kind stand beside each other, and the same call tells the same.
func TestTablesStandBesideEachOther(t *testing.T) {
	p := width.Plain()
	x := table(t, wide, zero)
	q := width.Plain()
	for range 2 {
		for _, r := range []rune{0x301, 0x4e00, 'a'} {
			if p.Of(r) != q.Of(r) || x.Of(r) != 2-p.Of(r) {
				t.Errorf("Of(%x): %d, %d, %d", r, p.Of(r), q.Of(r), x.Of(r))
			}
		}
	}
}
