package item_test

import (
	"math"
	"slices"
	"testing"

	"bodkin/api"
	"bodkin/item"
)

// sum is items' sum, by the words of the document: each number looked for by itself.
func sum(l []item.Item) item.Sum {
	s := item.Sum{N: len(l)}
	for k := range s.D {
		for _, i := range l {
			s.D[k] += i.D[k]
		}
	}
	for _, i := range l {
		s.Max = max(s.Max, i.Max)
	}
	s.At = max(0, slices.IndexFunc(l, func(i item.Item) bool { return i.Max == s.Max }))
	return s
}

// kinds are items of few numbers, so that the greatest Max is there once, twice or in all.
func kinds() []item.Item {
	return []item.Item{
		{},
		{Tag: -1, ID: 3, D: [3]int{1, 0, 0}, Max: 2, Text: "a"},
		{Tag: 2, ID: -5, D: [3]int{0, 2, 4}, Max: 5},
		{D: [3]int{7, api.MaxInt, 1}, Max: api.MaxInt, Text: "\xff"},
	}
}

// rows calls do with every row of at most n items of those kinds.
func rows(n int, do func([]item.Item)) {
	var grow func(l []item.Item)
	grow = func(l []item.Item) {
		do(l)
		if len(l) == n {
			return
		}
		for _, i := range kinds() {
			grow(append(slices.Clone(l), i))
		}
	}
	grow(nil)
}

// with is an item with a number in one of its sizes, or (3) as its Max.
func with(i item.Item, k, v int) item.Item {
	if k == 3 {
		i.Max = v
	} else {
		i.D[k] = v
	}
	return i
}

// 4.1: one number at a time, beside others that are right at either edge.
func TestCheckOneNumber(t *testing.T) {
	most := item.Item{D: [3]int{api.MaxInt, api.MaxInt, api.MaxInt}, Max: api.MaxInt}
	for _, base := range []item.Item{{}, {D: [3]int{1, 2, 3}, Max: 4}, most} {
		for k := range 4 {
			for _, v := range []int{0, 1, api.MaxInt - 1, api.MaxInt} {
				if e := item.Check(with(base, k, v)); e != api.OK {
					t.Errorf("%d at %d of %+v: %v", v, k, base, e)
				}
			}
			for _, v := range []int{-1, math.MinInt, -api.MaxInt, api.MaxInt + 1, math.MaxInt} {
				if e := item.Check(with(base, k, v)); e != api.ErrArg {
					t.Errorf("%d at %d of %+v: %v", v, k, base, e)
				}
			}
		}
	}
}

// 4.1: wrong numbers do not make up for each other.
func TestCheckSeveralNumbers(t *testing.T) {
	for a := range 4 {
		for b := range a {
			for _, v := range []int{-1, api.MaxInt + 1} {
				for _, w := range []int{-1, 1, api.MaxInt + 1} {
					i := with(with(item.Item{}, a, v), b, w)
					if e := item.Check(i); e != api.ErrArg {
						t.Errorf("%+v: %v", i, e)
					}
				}
			}
		}
	}
}

// 4.1: Tag and ID are any numbers, Text is any text.
func TestCheckAnyTag(t *testing.T) {
	for _, v := range []int{math.MinInt, -1, 0, 1, api.MaxInt + 1, math.MaxInt} {
		for _, text := range []string{"", "a\n", "\xff\xc0", string(make([]byte, api.MaxText+1))} {
			if e := item.Check(item.Item{Tag: v, ID: v, Text: text}); e != api.OK {
				t.Errorf("Tag and ID %d, %d bytes of text: %v", v, len(text), e)
			}
		}
	}
}

// 4.1
func TestOf(t *testing.T) {
	for _, i := range append(kinds(), item.Item{Tag: 9, ID: 8, D: [3]int{1, 2, 3}, Max: 4, Text: "abc"}) {
		want := item.Sum{N: 1, D: i.D, Max: i.Max}
		if s := item.Of(i); s != want {
			t.Errorf("Of(%+v): %+v, not %+v", i, s, want)
		}
	}
}

// 4.1
func TestAll(t *testing.T) {
	of := func(maxes ...int) []item.Item {
		var l []item.Item
		for n, v := range maxes {
			l = append(l, item.Item{D: [3]int{n, 1, 0}, Max: v})
		}
		return l
	}
	for _, x := range []struct {
		l    []item.Item
		want item.Sum
	}{
		{nil, item.Sum{}},
		{of(0), item.Sum{N: 1, D: [3]int{0, 1, 0}}},
		{of(0, 0, 0), item.Sum{N: 3, D: [3]int{3, 3, 0}}},
		{of(4, 4), item.Sum{N: 2, D: [3]int{1, 2, 0}, Max: 4}},
		{of(0, 4, 3, 4), item.Sum{N: 4, D: [3]int{6, 4, 0}, Max: 4, At: 1}},
		{of(1, 2, 3), item.Sum{N: 3, D: [3]int{3, 3, 0}, Max: 3, At: 2}},
		{of(0, 0, 1), item.Sum{N: 3, D: [3]int{3, 3, 0}, Max: 1, At: 2}},
		{of(api.MaxInt, 0, api.MaxInt), item.Sum{N: 3, D: [3]int{3, 3, 0}, Max: api.MaxInt}},
		{[]item.Item{{D: [3]int{1, 0, 0}, Max: 4}, {D: [3]int{2, 3, 0}, Max: 4}}, item.Sum{N: 2, D: [3]int{3, 3, 0}, Max: 4}},
	} {
		if s := item.All(x.l); s != x.want {
			t.Errorf("All(%+v): %+v, not %+v", x.l, s, x.want)
		}
	}
	rows(5, func(l []item.Item) {
		if s := item.All(l); s != sum(l) {
			t.Fatalf("All(%+v): %+v, not %+v", l, s, sum(l))
		}
	})
}

// 4.1: sizes together may be more than one item's may.
func TestAllAboveMaxInt(t *testing.T) {
	one := item.Item{D: [3]int{api.MaxInt, api.MaxInt, api.MaxInt}, Max: api.MaxInt}
	want := item.Sum{N: 1000, D: [3]int{1000 * api.MaxInt, 1000 * api.MaxInt, 1000 * api.MaxInt}, Max: api.MaxInt}
	if s := item.All(slices.Repeat([]item.Item{one}, 1000)); s != want {
		t.Errorf("All: %+v, not %+v", s, want)
	}
}

// 4.2
func TestAddEveryTwoShortRows(t *testing.T) {
	var all [][]item.Item
	rows(3, func(l []item.Item) { all = append(all, l) })
	for _, a := range all {
		for _, b := range all {
			want := sum(slices.Concat(a, b))
			if s := item.Add(item.All(a), item.All(b)); s != want {
				t.Fatalf("Add of %+v and %+v: %+v, not %+v", a, b, s, want)
			}
		}
	}
}

// 4.2: of two that are as great, the first one; a greater one counts from the first item of all.
func TestAddAt(t *testing.T) {
	a := item.Sum{N: 3, Max: 5, At: 1}
	for _, x := range []struct {
		b    item.Sum
		want item.Sum
	}{
		{item.Sum{N: 2, Max: 5, At: 1}, item.Sum{N: 5, Max: 5, At: 1}},
		{item.Sum{N: 2, Max: 4, At: 1}, item.Sum{N: 5, Max: 5, At: 1}},
		{item.Sum{N: 2, Max: 6, At: 1}, item.Sum{N: 5, Max: 6, At: 4}},
		{item.Sum{N: 2, Max: 6}, item.Sum{N: 5, Max: 6, At: 3}},
		{item.Sum{N: 2}, item.Sum{N: 5, Max: 5, At: 1}},
	} {
		if s := item.Add(a, x.b); s != x.want {
			t.Errorf("Add(%+v, %+v): %+v, not %+v", a, x.b, s, x.want)
		}
	}
}

// 4.3
func TestNothingChangesNothing(t *testing.T) {
	rows(4, func(l []item.Item) {
		s := item.All(l)
		if x := item.Add(s, item.All(nil)); x != s {
			t.Fatalf("%+v and nothing: %+v", s, x)
		}
		if x := item.Add(item.All([]item.Item{}), s); x != s {
			t.Fatalf("nothing and %+v: %+v", s, x)
		}
	})
	if x := item.Add(item.Sum{}, item.Sum{}); x != (item.Sum{}) {
		t.Errorf("nothing and nothing: %+v", x)
	}
}

// 4.3: each way to cut items in two or three, in both brackets.
func TestBrackets(t *testing.T) {
	rows(5, func(l []item.Item) {
		want := sum(l)
		for j := range len(l) + 1 {
			back := item.All(l[j:])
			if x := item.Add(item.All(l[:j]), back); x != want {
				t.Fatalf("%+v at %d: %+v, not %+v", l, j, x, want)
			}
			for i := range j + 1 {
				front, mid := item.All(l[:i]), item.All(l[i:j])
				if x := item.Add(item.Add(front, mid), back); x != want {
					t.Fatalf("%+v at %d, then at %d: %+v, not %+v", l, i, j, x, want)
				}
				if x := item.Add(front, item.Add(mid, back)); x != want {
					t.Fatalf("%+v at %d, at %d first: %+v, not %+v", l, i, j, x, want)
				}
			}
		}
	})
}

// 4.3: one by one, from either end.
func TestOneByOne(t *testing.T) {
	rows(5, func(l []item.Item) {
		var fore, back item.Sum
		for i := range l {
			fore = item.Add(fore, item.Of(l[i]))
			back = item.Add(item.Of(l[len(l)-1-i]), back)
		}
		if want := sum(l); fore != want || back != want {
			t.Fatalf("%+v: %+v and %+v, not %+v", l, fore, back, want)
		}
	})
}

// R2, R3, R6: no list and an empty one are the same; a list stays as it is, spare room too, and another call tells the same.
func TestListStays(t *testing.T) {
	if a, b := item.All(nil), item.All([]item.Item{}); a != b || a != (item.Sum{}) {
		t.Errorf("All of nothing: %+v, %+v", a, b)
	}
	room := kinds()
	s := item.All(room[:2])
	if x := item.All(room[:2]); x != s || s != sum(kinds()[:2]) {
		t.Errorf("All: %+v, then %+v", s, x)
	}
	if !slices.Equal(room, kinds()) {
		t.Errorf("the list became %+v", room)
	}
}

// R1: items and sums that are none are no reason to die.
func TestWrongItemsAndSums(t *testing.T) {
	for _, v := range []int{-1, math.MinInt, math.MaxInt, api.MaxInt + 1} {
		i := item.Item{Tag: v, ID: v, D: [3]int{v, v, v}, Max: v}
		s := item.Sum{N: v, D: i.D, Max: v, At: v}
		item.Of(i)
		item.All([]item.Item{i, {}, i})
		item.Add(s, s)
		item.Add(s, item.Sum{})
		item.Add(item.Sum{}, s)
	}
}
