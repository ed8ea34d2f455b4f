package seek_test

import (
	"math"
	"slices"
	"testing"

	"bodkin/api"
	"bodkin/item"
	"bodkin/seek"
	"bodkin/tree"
)

// row are n items, each unlike the others; many of their sizes are 0.
func row(n int) []item.Item {
	var l []item.Item
	for i := range n {
		l = append(l, item.Item{Tag: -i, ID: i, D: [3]int{i % 3, i * 7 % 5 / 2, i / 9 % 2}, Max: i * 13 % 17, Text: "t"})
	}
	return l
}

// at is a cursor at the item with an index, or behind all, of a tree of items.
func at(t *testing.T, l []item.Item, i int) *seek.Cursor {
	t.Helper()
	x, e := tree.New(l)
	if e != api.OK {
		t.Fatalf("New: %v", e)
	}
	c := seek.New(x)
	if e := c.To(3, i, api.Right); e != api.OK {
		t.Fatalf("To %d: %v", i, e)
	}
	return c
}

// hold tells what is wrong with a cursor that is at the item with an index, or behind all.
func hold(t *testing.T, what string, c *seek.Cursor, l []item.Item, i int) {
	t.Helper()
	var own item.Item
	end := i
	if i < len(l) {
		own, end = l[i], i+1
	}
	if got, ok := c.Item(); got != own || ok != (i < len(l)) {
		t.Fatalf("%s: Item at %d: %+v, %v", what, i, got, ok)
	}
	if s := c.Start(); s != item.All(l[:i]) {
		t.Fatalf("%s: Start at %d: %+v, not %+v", what, i, s, item.All(l[:i]))
	}
	if s := c.End(); s != item.All(l[:end]) {
		t.Fatalf("%s: End at %d: %+v, not %+v", what, i, s, item.All(l[:end]))
	}
}

// size is a sum's size.
func size(s item.Sum, dim int) int { return [4]int{s.D[0], s.D[1], s.D[2], s.N}[dim] }

// 6.1
func TestNew(t *testing.T) {
	for _, n := range []int{0, 1, 8, 9, 100} {
		x, _ := tree.New(row(n))
		hold(t, "New", seek.New(x), row(n), 0)
	}
	hold(t, "New of nil", seek.New(nil), nil, 0)
}

// 6.1: wherever tree.Find finds, from wherever the cursor was.
func TestToEverywhere(t *testing.T) {
	l := row(70)
	x, _ := tree.New(l)
	c := seek.New(x)
	for dim := range 4 {
		for v := size(x.Sum(), dim); v >= 0; v-- {
			for _, bias := range []int{api.Left, api.Right} {
				p, _ := x.Find(dim, v, bias)
				if e := c.To(dim, v, bias); e != api.OK {
					t.Fatalf("To(%d, %d, %d): %v", dim, v, bias, e)
				}
				hold(t, "To", c, l, p.Index)
			}
		}
	}
}

// 6.1: it stays where it is.
func TestToErrors(t *testing.T) {
	for _, n := range []int{0, 1, 30} {
		l := row(n)
		for _, i := range []int{0, n / 2, n} {
			c := at(t, l, i)
			wrong := [][3]int{{-1, 0, 0}, {4, 0, 1}, {math.MinInt, 0, 0}, {math.MaxInt, 0, 1}, {0, 0, -1}, {0, 0, 2}, {3, 0, math.MaxInt}}
			for dim := range 4 {
				for _, v := range []int{-1, size(item.All(l), dim) + 1, math.MinInt, math.MaxInt} {
					wrong = append(wrong, [3]int{dim, v, api.Left}, [3]int{dim, v, api.Right})
				}
			}
			for _, w := range wrong {
				if e := c.To(w[0], w[1], w[2]); e != api.ErrArg {
					t.Errorf("To%v: %v", w, e)
				}
				hold(t, "behind an error", c, l, i)
			}
		}
	}
}

// 6.2, 6.3: from the first to the last one, and back; neighbours meet.
func TestThereAndBack(t *testing.T) {
	for _, n := range []int{0, 1, 2, 8, 9, 65, 300} {
		l := row(n)
		x, _ := tree.New(l)
		c := seek.New(x)
		var seen []item.Item
		for i := range n {
			hold(t, "on the way", c, l, i)
			own, _ := c.Item()
			seen = append(seen, own)
			end := c.End()
			if !c.Next() {
				t.Fatalf("Next at %d of %d: false", i, n)
			}
			if c.Start() != end {
				t.Fatalf("%d of %d: the end is %+v, the next one's start %+v", i, n, end, c.Start())
			}
		}
		if !slices.Equal(seen, l) {
			t.Errorf("seen: %v", seen)
		}
		for range 2 {
			hold(t, "behind all", c, l, n)
			if c.Next() {
				t.Error("Next behind all: true")
			}
		}
		for i := n - 1; i >= 0; i-- {
			start := c.Start()
			if !c.Back() {
				t.Fatalf("Back to %d of %d: false", i, n)
			}
			hold(t, "on the way back", c, l, i)
			if c.End() != start {
				t.Fatalf("%d of %d: the end is %+v, the next one's start %+v", i, n, c.End(), start)
			}
		}
		for range 2 {
			if c.Back() {
				t.Error("Back at the first place: true")
			}
			hold(t, "at the first place", c, l, 0)
		}
	}
}

// takes is what Take takes, by the words of the document.
func takes(l []item.Item, from, dim, v int) []item.Item {
	to := from
	for to < len(l) && size(item.All(l[:to+1]), dim) <= v {
		to++
	}
	return l[from:to]
}

// 6.2: from everywhere, up to everywhere; items of no size at the end are taken too.
func TestTakeEverything(t *testing.T) {
	l := row(31)
	for dim := range 4 {
		most := size(item.All(l), dim)
		ends := []int{math.MinInt, -1, most + 1, math.MaxInt}
		for v := range most + 1 {
			ends = append(ends, v)
		}
		for _, v := range ends {
			for from := range len(l) + 1 {
				c := at(t, l, from)
				want := takes(l, from, dim, v)
				if got := c.Take(dim, v); !slices.Equal(got, want) {
					t.Fatalf("Take(%d, %d) from %d: %v, not %v", dim, v, from, got, want)
				}
				hold(t, "behind what was taken", c, l, from+len(want))
				if again := c.Take(dim, v); len(again) != 0 {
					t.Fatalf("Take(%d, %d) from %d again: %v", dim, v, from, again)
				}
			}
		}
	}
}

// 6.2
func TestTakeNoSize(t *testing.T) {
	l := row(20)
	for _, dim := range []int{-1, 4, math.MinInt, math.MaxInt} {
		for _, from := range []int{0, 7, 20} {
			c := at(t, l, from)
			if got := c.Take(dim, 100); len(got) != 0 {
				t.Errorf("Take(%d, 100): %v", dim, got)
			}
			hold(t, "behind nothing", c, l, from)
		}
	}
}

// 6.2
func TestTakeExample(t *testing.T) {
	l := []item.Item{{ID: 1, D: [3]int{1}}, {ID: 2, D: [3]int{2}}, {ID: 3, D: [3]int{3}}}
	c := at(t, l, 0)
	if e := c.To(0, 1, api.Right); e != api.OK {
		t.Fatal(e)
	}
	if got := c.Take(0, 3); !slices.Equal(got, l[1:2]) {
		t.Errorf("Take: %v", got)
	}
	hold(t, "the example", c, l, 2)
}

// 6.2: the cost of the longest row is no reason not to end.
func TestTakeAll(t *testing.T) {
	l := row(tree.Most)
	c := at(t, l, 0)
	if got := c.Take(3, tree.Most); !slices.Equal(got, l) {
		t.Errorf("Take: %d", len(got))
	}
	hold(t, "behind all", c, l, tree.Most)
}

// A nil cursor is behind all of an empty tree, and goes nowhere; one that nobody made is of an empty tree.
func TestNilCursor(t *testing.T) {
	var c *seek.Cursor
	for _, w := range [][3]int{{0, 0, api.Left}, {3, 0, api.Right}, {0, 1, api.Left}, {-1, 0, 0}, {0, 0, 2}} {
		if e := c.To(w[0], w[1], w[2]); e != api.ErrState {
			t.Errorf("To%v: %v", w, e)
		}
	}
	for _, c := range []*seek.Cursor{nil, {}, seek.New(nil)} {
		hold(t, "empty", c, nil, 0)
		if c.Next() || c.Back() || len(c.Take(0, 5)) != 0 || len(c.Take(9, 5)) != 0 {
			t.Error("a cursor of an empty tree moves")
		}
	}
	if e := seek.New(nil).To(3, 0, api.Right); e != api.OK {
		t.Errorf("To of an empty tree: %v", e)
	}
}

// R3, R6: cursors of one tree do not disturb each other; what was taken is nobody else's.
func TestCursorsAreApart(t *testing.T) {
	l := row(40)
	x, _ := tree.New(l)
	a, b := seek.New(x), seek.New(x)
	one := a.Take(3, 15)
	two := b.Take(3, 10)
	one[0] = item.Item{ID: 99}
	_ = append(one, item.Item{ID: 98})
	if !slices.Equal(two, l[:10]) || !slices.Equal(x.Items(), l) {
		t.Errorf("what was taken is shared: %v", two)
	}
	hold(t, "the one", a, l, 15)
	hold(t, "the other", b, l, 10)
	if y, e := x.Replace(0, 40, nil); e != api.OK || y.Sum().N != 0 {
		t.Errorf("Replace: %v", e)
	}
	hold(t, "behind a replacement", a, l, 15)
}
