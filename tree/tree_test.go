package tree_test

import (
	"math"
	"slices"
	"strconv"
	"testing"

	"bodkin/api"
	"bodkin/item"
	"bodkin/tree"
)

// mix is a number from 0 to below n that is hard to foresee and ever the same.
func mix(seed, n int) int {
	x := uint64(seed)*0x9e3779b97f4a7c15 + 0x632be59bd9b4e019
	x ^= x >> 29
	x *= 0xbf58476d1ce4e5b9
	x ^= x >> 32
	return int(x % uint64(n))
}

// row are n items, each unlike the others; many of their sizes are 0.
func row(n, seed int) []item.Item {
	var l []item.Item
	for i := range n {
		k := seed + i
		d := [3]int{mix(k, 3), mix(k+1e6, 5) / 3, mix(k+2e6, 9) / 8}
		l = append(l, item.Item{Tag: k, ID: -i, D: d, Max: mix(k+3e6, 40), Text: "t" + strconv.Itoa(k)})
	}
	return l
}

// of is the tree of items that are right.
func of(t *testing.T, l []item.Item) *tree.Tree {
	t.Helper()
	x, e := tree.New(l)
	if e != api.OK {
		t.Fatalf("New of %d: %v", len(l), e)
	}
	return x
}

// highest tells how high a tree of n items may be, by the words of the document.
func highest(n int) int {
	h := 2
	for most := 4; most <= n+1; most *= 4 {
		h++
	}
	return h
}

// hold tells what is wrong with a tree of items.
func hold(t *testing.T, what string, x *tree.Tree, l []item.Item) {
	t.Helper()
	if x == nil {
		t.Fatalf("%s: no tree", what)
	}
	if got := x.Items(); !slices.Equal(got, l) {
		t.Fatalf("%s: Items: %v, not %v", what, got, l)
	}
	if x.Sum() != item.All(l) {
		t.Fatalf("%s: Sum: %+v, not %+v", what, x.Sum(), item.All(l))
	}
	if !x.Sound() {
		t.Fatalf("%s: not sound", what)
	}
	if h := x.Height(); h > highest(len(l)) || (h == 0) != (len(l) == 0) || h == 1 && len(l) > tree.Wide {
		t.Fatalf("%s: Height %d of %d items", what, h, len(l))
	}
}

// bad is an item that Check refuses.
var bad = item.Item{Max: -1}

// 5.1
func TestNewEveryShortRow(t *testing.T) {
	for n := range 700 {
		l := row(n, 1)
		hold(t, "New of "+strconv.Itoa(n), of(t, l), l)
	}
}

// 5.1, 5.4: eight stand in a leaf; of more, a height of h has at most 8 to the power of h.
func TestNewHeight(t *testing.T) {
	for n, want := range map[int]int{
		0: 0, 1: 1, 2: 1, 7: 1, 8: 1, 9: 2, 40: 2, 63: 2, 64: 2, 65: 3, 512: 3, 513: 4, 4096: 4, 4097: 5, 30000: 5,
	} {
		if h := of(t, row(n, 2)).Height(); h != want {
			t.Errorf("Height of %d: %d, not %d", n, h, want)
		}
	}
}

// 5.1
func TestNewMost(t *testing.T) {
	l := row(tree.Most, 3)
	hold(t, "New of the most", of(t, l), l)
	for n, want := range map[int]api.Errno{tree.Most: api.OK, tree.Most + 1: api.ErrFull, 2 * tree.Most: api.ErrFull} {
		if _, e := tree.New(make([]item.Item, n)); e != want {
			t.Errorf("New of %d: %v", n, e)
		}
	}
}

// 5.1: one item that is wrong, at any place; too many come ahead of that.
func TestNewWrongItem(t *testing.T) {
	for n := 1; n < 30; n++ {
		for at := range n {
			l := row(n, 4)
			l[at] = bad
			if x, e := tree.New(l); e != api.ErrArg || x != nil {
				t.Errorf("New of %d, wrong at %d: %v, %v", n, at, x, e)
			}
		}
	}
	for _, i := range []item.Item{{D: [3]int{0, 0, -1}}, {D: [3]int{api.MaxInt + 1}}, {Max: api.MaxInt + 1}} {
		if _, e := tree.New([]item.Item{i}); e != api.ErrArg {
			t.Errorf("New of %+v: %v", i, e)
		}
	}
	if x, e := tree.New(slices.Repeat([]item.Item{bad}, tree.Most+1)); e != api.ErrFull || x != nil {
		t.Errorf("New of too many that are wrong: %v, %v", x, e)
	}
}

// 5.1
func TestAt(t *testing.T) {
	for _, n := range []int{0, 1, 2, 8, 9, 17, 64, 65, 600} {
		l := row(n, 5)
		x := of(t, l)
		for i := range l {
			if got, e := x.At(i); e != api.OK || got != l[i] {
				t.Errorf("At(%d) of %d: %+v, %v", i, n, got, e)
			}
		}
		for _, i := range []int{-1, n, n + 1, math.MinInt, math.MaxInt} {
			if got, e := x.At(i); e != api.ErrArg || got != (item.Item{}) {
				t.Errorf("At(%d) of %d: %+v, %v", i, n, got, e)
			}
		}
	}
}

// 5.1: sizes together may be more than one item's.
func TestGreatSizes(t *testing.T) {
	l := slices.Repeat([]item.Item{{D: [3]int{api.MaxInt, 0, api.MaxInt}, Max: api.MaxInt}}, tree.Most)
	x := of(t, l)
	hold(t, "great sizes", x, l)
	for _, i := range []int{0, 1, 12345, tree.Most - 1} {
		if p, e := x.Find(2, i*api.MaxInt, api.Right); e != api.OK || p.Index != i {
			t.Errorf("Find of %d: %+v, %v", i, p, e)
		}
	}
}

// 5.2
func TestSliceEverySpan(t *testing.T) {
	for _, n := range []int{0, 1, 7, 8, 9, 16, 17, 40, 64, 65, 100} {
		l := row(n, 6)
		x := of(t, l)
		for to := range n + 1 {
			for from := range to + 1 {
				s, e := x.Slice(from, to)
				if e != api.OK {
					t.Fatalf("Slice(%d, %d) of %d: %v", from, to, n, e)
				}
				hold(t, "Slice", s, l[from:to])
			}
		}
		hold(t, "what was sliced", x, l)
	}
}

// 5.2
func TestSliceOfLongRows(t *testing.T) {
	for k := range 600 {
		n := 1 + mix(k, 5000)
		l := row(n, 7)
		x := of(t, l)
		from := mix(k+1000, n+1)
		to := from + mix(k+2000, n+1-from)
		s, e := x.Slice(from, to)
		if e != api.OK {
			t.Fatalf("Slice(%d, %d) of %d: %v", from, to, n, e)
		}
		hold(t, "Slice", s, l[from:to])
	}
}

// noSpans are numbers that are no span of n items.
func noSpans(n int) [][2]int {
	return [][2]int{
		{-1, 0}, {-1, n}, {-1, -1}, {0, -1}, {1, 0}, {n, n - 1}, {0, n + 1}, {n, n + 1}, {n + 1, n + 1}, {n + 1, n},
		{math.MinInt, 0}, {math.MinInt, math.MaxInt}, {0, math.MaxInt}, {math.MaxInt, math.MaxInt}, {0, math.MinInt}, {math.MinInt, math.MinInt},
	}
}

// 5.2
func TestSliceWrongSpan(t *testing.T) {
	for _, n := range []int{0, 1, 9, 100} {
		x := of(t, row(n, 8))
		for _, s := range noSpans(n) {
			if y, e := x.Slice(s[0], s[1]); e != api.ErrArg || y != nil {
				t.Errorf("Slice%v of %d: %v, %v", s, n, y, e)
			}
		}
	}
}

// 5.2
func TestJoinEveryTwoShortRows(t *testing.T) {
	var trees []*tree.Tree
	for n := range 80 {
		trees = append(trees, of(t, row(n, 100*n)))
	}
	for _, a := range trees {
		for _, b := range trees {
			x, e := tree.Join(a, b)
			if e != api.OK {
				t.Fatalf("Join: %v", e)
			}
			hold(t, "Join", x, slices.Concat(a.Items(), b.Items()))
		}
	}
}

// 5.2: of heights that are unlike, either way about.
func TestJoinUnlikeHeights(t *testing.T) {
	sizes := []int{0, 1, 3, 4, 8, 9, 12, 64, 65, 130, 512, 513, 2049, 4096, 4097}
	for _, n := range sizes {
		for _, m := range sizes {
			a, b := row(n, 9), row(m, 10)
			x, e := tree.Join(of(t, a), of(t, b))
			if e != api.OK {
				t.Fatalf("Join of %d and %d: %v", n, m, e)
			}
			hold(t, "Join", x, slices.Concat(a, b))
		}
	}
}

// 5.2: one item by another, at either end and in the middle: trees that New does not make.
func TestOneByOne(t *testing.T) {
	fore, back, mid := of(t, nil), of(t, nil), of(t, nil)
	var foreRow, backRow, midRow []item.Item
	for k := range 600 {
		one := row(1, k)
		x := of(t, one)
		fore, _ = tree.Join(fore, x)
		back, _ = tree.Join(x, back)
		mid, _ = mid.Replace(k/2, k/2, one)
		foreRow = append(foreRow, one...)
		backRow = slices.Insert(backRow, 0, one...)
		midRow = slices.Insert(midRow, k/2, one...)
		hold(t, "at the end", fore, foreRow)
		hold(t, "at the beginning", back, backRow)
		hold(t, "in the middle", mid, midRow)
	}
	for k := 600; k > 0; k-- {
		fore, _ = fore.Replace(0, 1, nil)
		back, _ = back.Replace(k-1, k, []item.Item{})
		mid, _ = mid.Slice(0, k-1)
		foreRow, backRow, midRow = foreRow[1:], backRow[:k-1], midRow[:k-1]
		hold(t, "less at the beginning", fore, foreRow)
		hold(t, "less at the end", back, backRow)
		hold(t, "sliced at the end", mid, midRow)
	}
}

// 5.2
func TestJoinMost(t *testing.T) {
	half := row(tree.Most/2, 11)
	a := of(t, half)
	x, e := tree.Join(a, a)
	if e != api.OK {
		t.Fatalf("Join of the most: %v", e)
	}
	hold(t, "Join of the most", x, slices.Concat(half, half))
	one := of(t, row(1, 12))
	for _, p := range [][2]*tree.Tree{{x, one}, {one, x}, {x, x}, {x, a}} {
		if y, e := tree.Join(p[0], p[1]); e != api.ErrFull || y != nil {
			t.Errorf("Join of %d and %d: %v", p[0].Sum().N, p[1].Sum().N, e)
		}
	}
	for _, p := range [][2]*tree.Tree{{x, nil}, {nil, x}} {
		if y, e := tree.Join(p[0], p[1]); e != api.OK || y.Sum() != x.Sum() {
			t.Errorf("Join of the most and nothing: %v", e)
		}
	}
}

// 5.2
func TestReplaceEverySpan(t *testing.T) {
	for _, n := range []int{0, 1, 8, 9, 20, 33, 66} {
		l := row(n, 13)
		x := of(t, l)
		for to := range n + 1 {
			for from := range to + 1 {
				for _, m := range []int{0, 1, 4, 9, 70} {
					now := row(m, 14)
					y, e := x.Replace(from, to, now)
					if e != api.OK {
						t.Fatalf("Replace(%d, %d) of %d by %d: %v", from, to, n, m, e)
					}
					hold(t, "Replace", y, slices.Concat(l[:from], now, l[to:]))
				}
			}
		}
		hold(t, "what was replaced in", x, l)
	}
}

// 5.2: Slice's error, New's, ErrFull, in this order.
func TestReplaceErrors(t *testing.T) {
	long, wrong := make([]item.Item, tree.Most+1), []item.Item{{}, bad}
	for _, n := range []int{0, 1, 9, 100} {
		x := of(t, row(n, 15))
		for _, s := range noSpans(n) {
			for _, l := range [][]item.Item{nil, {{}}, wrong, long} {
				if y, e := x.Replace(s[0], s[1], l); e != api.ErrArg || y != nil {
					t.Errorf("Replace%v of %d: %v, %v", s, n, y, e)
				}
			}
		}
		if y, e := x.Replace(0, n, wrong); e != api.ErrArg || y != nil {
			t.Errorf("Replace by a wrong item: %v, %v", y, e)
		}
		if y, e := x.Replace(0, n, long); e != api.ErrFull || y != nil {
			t.Errorf("Replace by too many: %v, %v", y, e)
		}
	}
	full := of(t, make([]item.Item, tree.Most))
	for _, c := range []struct {
		from, to, n int
		wrong       bool
		want        api.Errno
	}{
		{0, 0, 0, false, api.OK},
		{0, 0, 1, false, api.ErrFull},
		{7, 7, 1, false, api.ErrFull},
		{7, 8, 1, false, api.OK},
		{7, 8, 2, false, api.ErrFull},
		{7, 8, 2, true, api.ErrArg},
		{100, 300, 200, false, api.OK},
		{100, 300, 201, false, api.ErrFull},
		{0, tree.Most, tree.Most, false, api.OK},
		{1, tree.Most, tree.Most, false, api.ErrFull},
		{tree.Most, tree.Most, tree.Most, false, api.ErrFull},
	} {
		l := make([]item.Item, c.n)
		if c.wrong {
			l[c.n-1] = bad
		}
		y, e := full.Replace(c.from, c.to, l)
		if e != c.want || (y == nil) != (e != api.OK) {
			t.Errorf("%+v: %v", c, e)
		}
		if e == api.OK && (y.Sum().N != tree.Most-(c.to-c.from)+c.n || !y.Sound()) {
			t.Errorf("%+v: %+v", c, y.Sum())
		}
	}
}

// size is a sum's size.
func size(s item.Sum, dim int) int { return [4]int{s.D[0], s.D[1], s.D[2], s.N}[dim] }

// place is what is found among items, by the words of the document.
func place(l []item.Item, dim, v, bias int) (int, item.Sum) {
	for i := range l {
		end := size(item.All(l[:i+1]), dim)
		if end > v || bias == api.Left && end >= v {
			return i, item.All(l[:i])
		}
	}
	return len(l), item.All(l)
}

// find holds each place that may be found in a tree against the words of the document.
func find(t *testing.T, x *tree.Tree, l []item.Item) {
	t.Helper()
	for dim := range 4 {
		for v := range size(item.All(l), dim) + 1 {
			for _, bias := range []int{api.Left, api.Right} {
				i, before := place(l, dim, v, bias)
				p, e := x.Find(dim, v, bias)
				if e != api.OK || p.Index != i || p.Before != before {
					t.Fatalf("Find(%d, %d, %d) of %v: %+v, %v, not %d, %+v", dim, v, bias, l, p, e, i, before)
				}
				if p.Visits > x.Height() || (p.Visits < 1) != (x.Height() == 0) || i < len(l) && p.Visits != x.Height() {
					t.Fatalf("Find(%d, %d, %d): %d visits, Height %d", dim, v, bias, p.Visits, x.Height())
				}
			}
		}
	}
}

// 5.3, 5.4
func TestFindEverywhere(t *testing.T) {
	for n := range 90 {
		l := row(n, 1000*n)
		find(t, of(t, l), l)
	}
}

// 5.3: items of no size at the beginning, in the middle, at the end, or everywhere.
func TestFindItemsOfNoSize(t *testing.T) {
	none, some := make([]item.Item, 11), row(11, 16)
	for _, l := range [][]item.Item{
		none,
		slices.Concat(none, some),
		slices.Concat(some, none),
		slices.Concat(some, none, some),
		slices.Concat(none, some, none),
	} {
		find(t, of(t, l), l)
	}
}

// 5.3: in trees that New does not make.
func TestFindInOtherShapes(t *testing.T) {
	l := row(90, 17)
	x := of(t, l)
	for from := range 90 {
		s, _ := x.Slice(from, 90-from/3)
		y, _ := tree.Join(s, of(t, l[:from]))
		find(t, y, slices.Concat(l[from:90-from/3], l[:from]))
		if from > 60 {
			break
		}
	}
}

// 5.3
func TestFindExample(t *testing.T) {
	x := of(t, []item.Item{{D: [3]int{1}}, {D: [3]int{2}}, {D: [3]int{3}}})
	if p, e := x.Find(0, 1, api.Right); e != api.OK || p.Index != 1 || p.Before != (item.Sum{N: 1, D: [3]int{1}}) || p.Visits != 1 {
		t.Errorf("Right: %+v, %v", p, e)
	}
	if p, e := x.Find(0, 1, api.Left); e != api.OK || p.Index != 0 || p.Before != (item.Sum{}) || p.Visits != 1 {
		t.Errorf("Left: %+v, %v", p, e)
	}
}

// 5.3
func TestFindErrors(t *testing.T) {
	for _, n := range []int{0, 1, 9, 70} {
		l := row(n, 18)
		x := of(t, l)
		type find struct{ dim, v, bias int }
		wrong := []find{{0, 0, -1}, {0, 0, 2}, {3, 0, math.MinInt}, {3, n, math.MaxInt}}
		for _, dim := range []int{-1, 4, math.MinInt, math.MaxInt} {
			wrong = append(wrong, find{dim, 0, api.Left}, find{dim, 1, api.Right})
		}
		for dim := range 4 {
			all := size(item.All(l), dim)
			for _, v := range []int{-1, all + 1, math.MinInt, math.MaxInt} {
				wrong = append(wrong, find{dim, v, api.Left}, find{dim, v, api.Right})
			}
		}
		for _, f := range wrong {
			if p, e := x.Find(f.dim, f.v, f.bias); e != api.ErrArg || p != (tree.Place{}) {
				t.Errorf("Find%v of %d: %+v, %v", f, n, p, e)
			}
		}
	}
}

// A nil tree, and one that nobody made, are empty.
func TestNilTree(t *testing.T) {
	for _, x := range []*tree.Tree{nil, {}} {
		if x.Sum() != (item.Sum{}) || x.Height() != 0 || len(x.Items()) != 0 || !x.Sound() {
			t.Errorf("%+v, %d, %v, %v", x.Sum(), x.Height(), x.Items(), x.Sound())
		}
		if i, e := x.At(0); e != api.ErrArg || i != (item.Item{}) {
			t.Errorf("At: %+v, %v", i, e)
		}
		if y, e := x.Slice(0, 0); e != api.OK {
			t.Errorf("Slice: %v", e)
		} else {
			hold(t, "Slice of nil", y, nil)
		}
		if y, e := x.Slice(0, 1); e != api.ErrArg || y != nil {
			t.Errorf("Slice: %v, %v", y, e)
		}
		y, e := tree.Join(x, nil)
		if e != api.OK {
			t.Errorf("Join: %v", e)
		}
		hold(t, "Join of nil", y, nil)
		l := row(20, 19)
		y, e = x.Replace(0, 0, l)
		if e != api.OK {
			t.Errorf("Replace: %v", e)
		}
		hold(t, "Replace of nil", y, l)
		if y, e := x.Replace(0, 1, l); e != api.ErrArg || y != nil {
			t.Errorf("Replace: %v, %v", y, e)
		}
		find(t, x, nil)
	}
}

// 5.4, 5.5: whatever is made of trees, in any order: each is as it was.
func TestTreesStay(t *testing.T) {
	trees, rows := []*tree.Tree{of(t, nil)}, [][]item.Item{nil}
	for k := range 3000 {
		a, b := mix(k, len(trees)), mix(k+1e4, len(trees))
		n := len(rows[a])
		from := mix(k+2e4, n+1)
		to := from + mix(k+3e4, n+1-from)
		var x *tree.Tree
		var l []item.Item
		var e api.Errno
		switch now := row(mix(k+4e4, 60), k); {
		case k%3 == 0 && n+len(rows[b]) < 1500:
			x, e = tree.Join(trees[a], trees[b])
			l = slices.Concat(rows[a], rows[b])
		case k%3 == 1:
			x, e = trees[a].Slice(from, to)
			l = slices.Clone(rows[a][from:to])
		default:
			x, e = trees[a].Replace(from, min(to, from+40), now)
			l = slices.Concat(rows[a][:from], now, rows[a][min(to, from+40):])
		}
		if e != api.OK {
			t.Fatalf("step %d: %v", k, e)
		}
		hold(t, "step "+strconv.Itoa(k), x, l)
		trees, rows = append(trees, x), append(rows, l)
	}
	for k := range trees {
		hold(t, "tree "+strconv.Itoa(k), trees[k], rows[k])
	}
}

// R2, R3: what is handed in and out is not shared with a tree, spare room too.
func TestListsAreNotShared(t *testing.T) {
	l := row(30, 20)
	room := slices.Clone(l)
	x := of(t, room[:20])
	y, e := x.Replace(3, 5, room[20:25])
	if e != api.OK || !slices.Equal(room, l) {
		t.Fatalf("Replace: %v", e)
	}
	for i := range room {
		room[i] = bad
	}
	hold(t, "behind a change of what was handed in", x, l[:20])
	want := slices.Concat(l[:3], l[20:25], l[5:20])
	hold(t, "behind a change of what was handed in", y, want)
	one, two := y.Items(), y.Items()
	_ = append(one, bad)
	for i := range one {
		one[i] = bad
	}
	if !slices.Equal(two, want) {
		t.Errorf("two answers share: %v", two)
	}
	hold(t, "behind a change of what was handed out", y, want)
	if a, b := of(t, nil), of(t, []item.Item{}); a.Sum() != b.Sum() || a.Height() != b.Height() {
		t.Error("no list and an empty one are not the same")
	}
}
