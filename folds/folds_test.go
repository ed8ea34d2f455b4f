package folds_test

import (
	"math"
	"slices"
	"strings"
	"testing"

	"bodkin/api"
	"bodkin/folds"
	"bodkin/patch"
)

// mix is a number from 0 to below n that is hard to foresee and ever the same.
func mix(seed, n int) int {
	x := uint64(seed)*0x9e3779b97f4a7c15 + 0x632be59bd9b4e019
	x ^= x >> 29
	x *= 0xbf58476d1ce4e5b9
	x ^= x >> 32
	return int(x % uint64(n))
}

// span is the places from one on, up to another one.
func span(from, to int) api.Span { return api.Span{From: from, To: to} }

// list are spans, told by their ends.
func list(ends ...int) []api.Span {
	var l []api.Span
	for i := 0; i < len(ends); i += 2 {
		l = append(l, span(ends[i], ends[i+1]))
	}
	return l
}

// change is what stood from a to b, and stands from c to d now.
func change(a, b, c, d int) patch.Change {
	return patch.Change{Old: span(a, b), New: span(c, d)}
}

// of is the set of folds, for a text of n runes.
func of(t *testing.T, n int, l []api.Span) *folds.Set {
	t.Helper()
	s, e := folds.New(n, l)
	if s == nil || e != api.OK {
		t.Fatalf("New(%d, %v): %v, %v", n, l, s, e)
	}
	return s
}

// ordered are folds in their order, found by holding each against each.
func ordered(l []api.Span) []api.Span {
	all := make([]api.Span, len(l))
	for _, a := range l {
		n := 0
		for _, b := range l {
			if b.From < a.From || b.From == a.From && b.To < a.To {
				n++
			}
		}
		all[n] = a
	}
	return all
}

// overlap tells whether each of two folds begins ahead of the other one's end.
func overlap(a, b api.Span) bool { return a.From < b.To && b.From < a.To }

// hidden are the hidden spans of folds, found by going from each fold to all that overlap it.
func hidden(l []api.Span) []api.Span {
	var spans []api.Span
	done := make([]bool, len(l))
	for i, whole := range l {
		if done[i] {
			continue
		}
		done[i] = true
		for group := []int{i}; len(group) > 0; group = group[1:] {
			x := l[group[0]]
			whole = span(min(whole.From, x.From), max(whole.To, x.To))
			for j, y := range l {
				if !done[j] && overlap(x, y) {
					done[j] = true
					group = append(group, j)
				}
			}
		}
		spans = append(spans, whole)
	}
	return ordered(spans)
}

// has tells what is wrong with a set that should have folds and no other one, for a text of n runes.
func has(t *testing.T, s *folds.Set, n int, l []api.Span) {
	t.Helper()
	if s.Len() != n {
		t.Fatalf("Len: %d, not %d", s.Len(), n)
	}
	if all := s.All(); !slices.Equal(all, ordered(l)) {
		t.Fatalf("All: %v, not %v", all, ordered(l))
	}
	want := hidden(l)
	if got := s.Hidden(); !slices.Equal(got, want) {
		t.Fatalf("Hidden of %v: %v, not %v", l, got, want)
	}
	for _, x := range want {
		for _, at := range []int{x.From - 1, x.From, x.From + 1, (x.From + x.To) / 2, x.To - 1, x.To, x.To + 1} {
			over(t, s, want, at)
		}
	}
	for _, at := range []int{-1, 0, n, n + 1, math.MinInt, math.MaxInt} {
		over(t, s, want, at)
	}
}

// over tells what is wrong with what a set of hidden spans tells of a place.
func over(t *testing.T, s *folds.Set, hidden []api.Span, at int) {
	t.Helper()
	var want api.Span
	is := false
	for _, x := range hidden {
		if x.From < at && at < x.To {
			want, is = x, true
		}
	}
	if x, ok := s.Over(at); x != want || ok != is {
		t.Fatalf("Over(%d) of %v: %v, %v", at, hidden, x, ok)
	}
}

// some are at most k folds of a text of n runes, all unlike, and none longer than long.
func some(n, k, long, seed int) []api.Span {
	var l []api.Span
	for i := range k {
		if n == 0 {
			break
		}
		at := seed + 2*i
		from := mix(at, n)
		x := span(from, from+1+mix(at+1, min(long, n-from)))
		if !slices.Contains(l, x) {
			l = append(l, x)
		}
	}
	return l
}

// all are all folds of a text of n runes, the longest first.
func all(n int) []api.Span {
	var l []api.Span
	for long := n; long > 0; long-- {
		for from := range n - long + 1 {
			l = append(l, span(from, from+long))
		}
	}
	return l
}

// The document's example.
func TestExample(t *testing.T) {
	s := of(t, 9, list(1, 4, 3, 6, 6, 8))
	if got := s.Hidden(); !slices.Equal(got, list(1, 6, 6, 8)) {
		t.Errorf("Hidden: %v", got)
	}
}

// 15.1: what is handed in is all there, in its order, and what it hides.
func TestNew(t *testing.T) {
	for seed := range 1000 {
		n := []int{0, 1, 5, 40, 1000, api.MaxInt}[mix(seed, 6)]
		long := []int{1, 3, 20, api.MaxInt}[mix(seed+1, 4)]
		l := some(n, mix(seed+2, api.MaxFolds+1), long, 1000*seed)
		has(t, of(t, n, l), n, l)
	}
}

// 15.1: each set of folds of a short text, and of each place whether it is in what is hidden.
func TestNewSmall(t *testing.T) {
	for n := range 5 {
		every := all(n)
		for set := range 1 << len(every) {
			var l []api.Span
			for i, x := range every {
				if set>>i&1 == 1 {
					l = append(l, x)
				}
			}
			s := of(t, n, l)
			has(t, s, n, l)
			for at := -2; at < n+3; at++ {
				over(t, s, hidden(l), at)
			}
		}
	}
}

// 15.1: From comes first, then To, however they were handed in.
func TestOrder(t *testing.T) {
	want := list(0, 1, 0, 2, 0, api.MaxInt, 1, 2, 1, 3, 2, 9, 3, 4, 3, api.MaxInt-1, 3, api.MaxInt)
	for seed := range 500 {
		l := slices.Clone(want)
		for i := range l {
			j := i + mix(100*seed+i, len(l)-i)
			l[i], l[j] = l[j], l[i]
		}
		if got := of(t, api.MaxInt, l).All(); !slices.Equal(got, want) {
			t.Fatalf("All of %v: %v", l, got)
		}
	}
}

// 15.1: folds that touch are not hidden together; one that overlaps both is with them; nor is it how they stand that tells.
func TestHidden(t *testing.T) {
	for i, c := range []struct{ l, want []api.Span }{
		{nil, nil},
		{list(2, 5), list(2, 5)},
		{list(2, 5, 5, 7), list(2, 5, 5, 7)},
		{list(2, 5, 5, 7, 4, 6), list(2, 7)},
		{list(2, 5, 5, 7, 2, 7), list(2, 7)},
		{list(2, 5, 5, 7, 5, 6), list(2, 5, 5, 7)},
		{list(2, 5, 4, 7, 7, 8), list(2, 7, 7, 8)},
		{list(0, 20, 3, 5, 4, 6, 19, 20, 20, 21), list(0, 20, 20, 21)},
		{list(0, 2, 1, 3, 2, 4, 3, 5, 4, 6), list(0, 6)},
		{list(0, 9, 1, 2, 8, 10, 9, 11), list(0, 11)},
		{list(0, 1, 2, 3, 4, 5), list(0, 1, 2, 3, 4, 5)},
		{list(0, api.MaxInt, api.MaxInt-1, api.MaxInt), list(0, api.MaxInt)},
	} {
		for _, turned := range []bool{false, true} {
			l := slices.Clone(c.l)
			if turned {
				slices.Reverse(l)
			}
			if got := of(t, api.MaxInt, l).Hidden(); !slices.Equal(got, c.want) {
				t.Errorf("%d: Hidden of %v: %v, not %v", i, l, got, c.want)
			}
		}
	}
}

// faults are spans that are no folds of a text of 9 runes.
func faults() []api.Span {
	return list(3, 3, 0, 0, 9, 9, 4, 3, 9, 0, -1, 3, -3, -1, -1, -1, 3, 10, 9, 10, 10, 11, 0, math.MaxInt, math.MinInt, 3, math.MinInt, math.MaxInt, math.MaxInt, math.MinInt, 3, math.MinInt)
}

// 15.1, R4: what is no fold is told, wherever it stands, unless there is one twice ahead of it.
func TestNewWrongFold(t *testing.T) {
	right := list(0, 9, 3, 4, 8, 9)
	for _, x := range faults() {
		for at := range len(right) + 1 {
			l := slices.Insert(slices.Clone(right), at, x)
			if s, e := folds.New(9, l); s != nil || e != api.ErrArg {
				t.Errorf("New(9, %v): %v, %v", l, s, e)
			}
			l = append(l, l[0], right[0])
			if s, e := folds.New(9, l); s != nil || e != api.ErrArg {
				t.Errorf("New(9, %v): %v, %v", l, s, e)
			}
			l = slices.Insert(slices.Clone(l), 0, right[0], right[0])
			if s, e := folds.New(9, l); s != nil || e != api.ErrSame {
				t.Errorf("New(9, %v): %v, %v", l, s, e)
			}
		}
		if s, e := folds.New(9, []api.Span{x, x}); s != nil || e != api.ErrArg {
			t.Errorf("New(9) of %v twice: %v, %v", x, s, e)
		}
	}
}

// 15.1: the number comes ahead of how many there are, that ahead of each one.
func TestNewErrors(t *testing.T) {
	full, many := all(11)[:api.MaxFolds], all(11)[:api.MaxFolds+1]
	for i, c := range []struct {
		n int
		l []api.Span
		e api.Errno
	}{
		{-1, nil, api.ErrArg},
		{math.MinInt, nil, api.ErrArg},
		{api.MaxInt + 1, nil, api.ErrArg},
		{math.MaxInt, nil, api.ErrArg},
		{-1, many, api.ErrArg},
		{api.MaxInt + 1, many, api.ErrArg},
		{11, full, api.OK},
		{11, many, api.ErrFull},
		{10, full, api.ErrArg},
		{10, many, api.ErrFull},
		{11, make([]api.Span, api.MaxFolds+1), api.ErrFull},
		{11, make([]api.Span, api.MaxFolds), api.ErrArg},
		{11, slices.Repeat(list(1, 2), api.MaxFolds+1), api.ErrFull},
		{11, slices.Repeat(list(1, 2), api.MaxFolds), api.ErrSame},
		{11, slices.Concat(full[1:], full[5:6]), api.ErrSame},
		{11, list(1, 2, 1, 3, 2, 3), api.OK},
		{11, list(1, 2, 1, 3, 2, 3, 1, 2), api.ErrSame},
		{0, nil, api.OK},
		{0, []api.Span{}, api.OK},
		{0, list(0, 0), api.ErrArg},
		{0, list(0, 1), api.ErrArg},
		{1, list(0, 1), api.OK},
		{api.MaxInt, list(0, api.MaxInt), api.OK},
		{api.MaxInt, list(0, api.MaxInt+1), api.ErrArg},
	} {
		s, e := folds.New(c.n, c.l)
		if e != c.e || (s == nil) != (e != api.OK) {
			t.Errorf("%d: New(%d, %v): %v, %v", i, c.n, c.l, s, e)
		}
		if e == api.OK {
			has(t, s, c.n, c.l)
		}
	}
}

// 15.2: sets to which one fold after another is added, and those that they were made of.
func TestAdd(t *testing.T) {
	sets, lists := []*folds.Set{of(t, 11, nil)}, [][]api.Span{nil}
	for _, x := range slices.Backward(all(11)) {
		last := len(sets) - 1
		u, e := sets[last].Add(x)
		if last == api.MaxFolds {
			if u != nil || e != api.ErrFull {
				t.Fatalf("Add to %d folds: %v, %v", last, u, e)
			}
			continue
		}
		if u == nil || e != api.OK {
			t.Fatalf("Add(%v): %v, %v", x, u, e)
		}
		sets, lists = append(sets, u), append(lists, slices.Concat(lists[last], []api.Span{x}))
	}
	for i, s := range sets {
		has(t, s, 11, lists[i])
	}
}

// 15.2: two sets made of one by adding have nothing of each other.
func TestAddTwice(t *testing.T) {
	for k := range 20 {
		s := of(t, 30, all(30)[:k])
		u, _ := s.Add(span(5, 6))
		v, _ := s.Add(span(7, 8))
		has(t, u, 30, slices.Concat(all(30)[:k], list(5, 6)))
		has(t, v, 30, slices.Concat(all(30)[:k], list(7, 8)))
	}
}

// 15.2, R4: what is wrong with one that is added: the number of folds comes ahead of it.
func TestAddErrors(t *testing.T) {
	l := list(2, 4, 3, 5)
	s, full := of(t, 9, l), of(t, 11, all(11)[:api.MaxFolds])
	for _, x := range faults() {
		if u, e := s.Add(x); u != nil || e != api.ErrArg {
			t.Errorf("Add(%v): %v, %v", x, u, e)
		}
		if u, e := full.Add(x); u != nil || e != api.ErrFull {
			t.Errorf("Add(%v) to all: %v, %v", x, u, e)
		}
	}
	for _, x := range l {
		if u, e := s.Add(x); u != nil || e != api.ErrSame {
			t.Errorf("Add(%v): %v, %v", x, u, e)
		}
	}
	if u, e := full.Add(span(0, 11)); u != nil || e != api.ErrFull {
		t.Errorf("Add of one that is there: %v, %v", u, e)
	}
	has(t, s, 9, l)
	has(t, full, 11, all(11)[:api.MaxFolds])
}

// 15.2: of sets of few folds and many, each span: those go that have a place in common with it, also one at which they only touch.
func TestRemove(t *testing.T) {
	for seed := range 60 {
		n := mix(seed, 12)
		l := some(n, mix(seed+1, 20), 1+mix(seed+2, 12), 1000*seed)
		s := of(t, n, l)
		for from := range n + 1 {
			for to := from; to <= n; to++ {
				var left []api.Span
				for _, f := range l {
					if f.To < from || to < f.From {
						left = append(left, f)
					}
				}
				u, k, e := s.Remove(span(from, to))
				if u == nil || k != len(l)-len(left) || e != api.OK {
					t.Fatalf("Remove(%d, %d) of %v: %v, %d, %v", from, to, l, u, k, e)
				}
				has(t, u, n, left)
			}
		}
		has(t, s, n, l)
	}
}

// 15.2: at the ends of one fold, and beside them.
func TestRemoveEdges(t *testing.T) {
	s := of(t, 9, list(3, 6))
	for _, c := range [][3]int{{2, 2, 0}, {3, 3, 1}, {4, 4, 1}, {6, 6, 1}, {7, 7, 0}, {0, 2, 0}, {0, 3, 1}, {6, 9, 1}, {7, 9, 0}, {0, 9, 1}, {4, 5, 1}, {0, 0, 0}, {9, 9, 0}} {
		if u, n, e := s.Remove(span(c[0], c[1])); n != c[2] || e != api.OK || len(u.All()) != 1-n {
			t.Errorf("Remove(%d, %d): %v, %d, %v", c[0], c[1], u.All(), n, e)
		}
	}
	far := of(t, api.MaxInt, list(0, 1, api.MaxInt-1, api.MaxInt))
	if u, n, e := far.Remove(span(2, api.MaxInt)); n != 1 || e != api.OK || !slices.Equal(u.All(), list(0, 1)) {
		t.Errorf("Remove of the last: %v, %d, %v", u.All(), n, e)
	}
}

// 15.2, R4: what is no span of places.
func TestRemoveErrors(t *testing.T) {
	for _, s := range []*folds.Set{of(t, 9, nil), of(t, 9, list(2, 4, 3, 5, 0, 9))} {
		for _, x := range faults() {
			u, n, e := s.Remove(x)
			if x.From == x.To && x.From >= 0 && x.To <= 9 {
				if u == nil || e != api.OK {
					t.Errorf("Remove(%v): %v, %v", x, u, e)
				}
				continue
			}
			if u != nil || n != 0 || e != api.ErrArg {
				t.Errorf("Remove(%v): %v, %d, %v", x, u, n, e)
			}
		}
	}
}

// patchOf is a normal patch of a text of n runes.
func patchOf(n, seed int) []patch.Change {
	var ends []int
	for i := range 2 * mix(seed, 4) {
		ends = append(ends, mix(seed+i+1, n+1))
	}
	slices.Sort(ends)
	var l []api.Edit
	for i := 0; i < len(ends); i += 2 {
		l = append(l, api.Edit{From: ends[i], To: ends[i+1], Text: strings.Repeat("x", mix(seed+i+20, 4))})
	}
	return patch.Of(l)
}

// shifted are folds behind a patch.
func shifted(t *testing.T, l []api.Span, p []patch.Change) []api.Span {
	t.Helper()
	var want []api.Span
	for _, x := range l {
		from, e := patch.Map(p, x.From, api.Right)
		to, f := patch.Map(p, x.To, api.Left)
		if e != api.OK || f != api.OK {
			t.Fatal(e, f)
		}
		if from < to && !slices.Contains(want, span(from, to)) {
			want = append(want, span(from, to))
		}
	}
	return want
}

// 15.3: each fold goes where its ends go, unless nothing is in it any more, or it is like another one; the set that was stays.
func TestShift(t *testing.T) {
	gone, like := 0, 0
	for seed := range 5000 {
		n := mix(seed, 14)
		l := some(n, mix(seed+1, 30), 1+mix(seed+2, 14), 1000*seed)
		p := patchOf(n, 100*seed)
		want := shifted(t, l, p)
		s := of(t, n, l)
		u, e := s.Shift(p)
		if u == nil || e != api.OK {
			t.Fatalf("%d: Shift(%v): %v, %v", n, p, u, e)
		}
		has(t, u, n+patch.Delta(p), want)
		has(t, s, n, l)
		for _, x := range l {
			if len(shifted(t, []api.Span{x}, p)) == 0 {
				gone++
			} else {
				like++
			}
		}
		like -= len(want)
	}
	if gone < 1000 || like < 1000 {
		t.Errorf("%d were gone, and %d like another one", gone, like)
	}
}

// 15.3: what is left of folds by one change.
func TestShiftOneChange(t *testing.T) {
	for i, c := range []struct {
		l, want []api.Span
		p       patch.Change
	}{
		{list(3, 6), list(3, 6), change(7, 8, 7, 7)},
		{list(3, 6), list(5, 8), change(1, 1, 1, 3)},
		{list(3, 6), list(5, 8), change(3, 3, 3, 5)},
		{list(3, 6), list(3, 8), change(4, 4, 4, 6)},
		{list(3, 6), list(3, 6), change(6, 6, 6, 8)},
		{list(3, 6), list(4, 6), change(2, 4, 2, 4)},
		{list(3, 6), list(3, 5), change(5, 7, 5, 7)},
		{list(3, 6), list(2, 4), change(1, 4, 1, 2)},
		{list(3, 6), list(3, 4), change(4, 6, 4, 4)},
		{list(3, 6), list(9, 10), change(3, 5, 3, 9)},
		{list(3, 6), list(0, 3), change(0, 3, 0, 0)},
		{list(3, 6), list(3, 6), change(6, 9, 6, 6)},
		{list(3, 6), nil, change(3, 6, 3, 6)},
		{list(3, 6), nil, change(3, 6, 3, 3)},
		{list(3, 6), nil, change(2, 7, 2, 30)},
		{list(3, 6, 3, 7), list(3, 6), change(6, 7, 6, 6)},
		{list(3, 6, 4, 6, 5, 6), list(3, 4), change(3, 5, 3, 3)},
		{list(2, 9, 3, 5), list(2, 3, 2, 7), change(1, 4, 1, 2)},
	} {
		u, e := of(t, 9, c.l).Shift([]patch.Change{c.p})
		if e != api.OK || !slices.Equal(u.All(), c.want) {
			t.Errorf("%d: Shift(%v) of %v: %v, %v, not %v", i, c.p, c.l, e, u.All(), c.want)
		}
	}
}

// 15.3: as many folds as there may be are shifted together.
func TestShiftFull(t *testing.T) {
	full := all(11)[:api.MaxFolds]
	u, e := of(t, 11, full).Shift([]patch.Change{change(0, 0, 0, 2)})
	if e != api.OK {
		t.Fatal(e)
	}
	for i, x := range full {
		full[i] = span(x.From+2, x.To+2)
	}
	has(t, u, 13, full)
}

// 15.3: places behind the text, and texts that are too long, whether there is a fold or none.
func TestShiftEdges(t *testing.T) {
	const end = api.MaxInt
	for i, c := range []struct {
		n int
		p []patch.Change
		e api.Errno
	}{
		{0, nil, api.OK},
		{0, []patch.Change{change(0, 0, 0, 1)}, api.OK},
		{0, []patch.Change{change(0, 0, 0, end)}, api.OK},
		{0, []patch.Change{change(0, 1, 0, 0)}, api.ErrArg},
		{0, []patch.Change{change(1, 1, 1, 2)}, api.ErrArg},
		{4, []patch.Change{change(4, 4, 4, 5)}, api.OK},
		{4, []patch.Change{change(5, 5, 5, 6)}, api.ErrArg},
		{4, []patch.Change{change(3, 4, 3, 3)}, api.OK},
		{4, []patch.Change{change(3, 5, 3, 3)}, api.ErrArg},
		{4, []patch.Change{change(0, 4, 0, 0)}, api.OK},
		{4, []patch.Change{change(0, 2, 0, 0), change(3, 4, 1, 9)}, api.OK},
		{4, []patch.Change{change(0, 2, 0, 0), change(3, 5, 1, 9)}, api.ErrArg},
		{4, []patch.Change{change(0, 2, 0, 0), change(5, 5, 3, 9)}, api.ErrArg},
		{4, []patch.Change{change(0, 0, 0, end-4)}, api.OK},
		{4, []patch.Change{change(0, 0, 0, end-3)}, api.ErrArg},
		{4, []patch.Change{change(0, 4, 0, end)}, api.OK},
		{4, []patch.Change{change(0, 0, 0, end)}, api.ErrArg},
		{4, []patch.Change{change(0, 1, 0, end-10), change(2, 2, end-9, end-2)}, api.OK},
		{4, []patch.Change{change(0, 1, 0, end-10), change(2, 2, end-9, end-1)}, api.ErrArg},
		{end, nil, api.OK},
		{end, []patch.Change{change(0, end, 0, end)}, api.OK},
		{end, []patch.Change{change(0, end, 0, 0)}, api.OK},
		{end, []patch.Change{change(0, 0, 0, 1)}, api.ErrArg},
		{end, []patch.Change{change(0, 1, 0, 0), change(end-1, end-1, end-2, end-1)}, api.OK},
		{end, []patch.Change{change(0, 1, 0, 0), change(end-1, end-1, end-2, end)}, api.ErrArg},
		{end - 1, []patch.Change{change(0, 0, 0, 1)}, api.OK},
		{end - 1, []patch.Change{change(0, 0, 0, 2)}, api.ErrArg},
		{end - 1, []patch.Change{change(end-1, end, end-1, end-1)}, api.ErrArg},
	} {
		for _, l := range [][]api.Span{nil, some(c.n, 5, c.n, i)} {
			s := of(t, c.n, l)
			u, e := s.Shift(c.p)
			if e != c.e || (u == nil) != (e != api.OK) {
				t.Errorf("%d: Shift(%v) of %d: %v, %v", i, c.p, c.n, u, e)
			}
			if e == api.OK {
				has(t, u, c.n+patch.Delta(c.p), shifted(t, l, c.p))
			}
			has(t, s, c.n, l)
		}
	}
}

// 15.3: what is not normal is told ahead of what is not in the text.
func TestShiftNotNormal(t *testing.T) {
	for _, p := range [][]patch.Change{
		{{}},
		{change(1, 2, 2, 3)},
		{change(1, 1, 1, 1)},
		{change(2, 1, 2, 2)},
		{change(-1, 1, -1, 1)},
		{change(0, 1, 0, 1), change(1, 2, 1, 2)},
		{change(3, 4, 3, 4), change(0, 1, 0, 1)},
		{change(20, 20, 20, 20)},
		{change(0, 20, 1, 2)},
		{change(20, 21, 20, 21), change(21, 22, 21, 22)},
		{change(0, 0, 0, api.MaxInt+1)},
		{change(math.MinInt, math.MaxInt, math.MinInt, math.MaxInt)},
		{change(0, math.MaxInt, 0, math.MaxInt)},
	} {
		for _, s := range []*folds.Set{nil, of(t, 9, nil), of(t, 9, list(2, 4, 3, 9))} {
			if u, e := s.Shift(p); u != nil || e != api.ErrForm {
				t.Errorf("Shift(%v): %v, %v", p, u, e)
			}
		}
	}
}

// 15.4: hidden spans are apart, or touch; each fold is in one; each rune of one is in a fold.
func TestWhatIsHidden(t *testing.T) {
	for seed := range 1000 {
		n := mix(seed, 40)
		l := some(n, mix(seed+1, api.MaxFolds+1), 1+mix(seed+2, 12), 1000*seed)
		ahead := 0
		spans := of(t, n, l).Hidden()
		for _, x := range spans {
			if x.From < ahead || x.From >= x.To || x.To > n {
				t.Fatalf("Hidden of %v: %v", l, spans)
			}
			ahead = x.To
			for at := x.From; at < x.To; at++ {
				if !slices.ContainsFunc(l, func(f api.Span) bool { return f.From <= at && at < f.To }) {
					t.Fatalf("Hidden of %v: %v: the rune %d is in none", l, spans, at)
				}
			}
		}
		for _, f := range l {
			in := 0
			for _, x := range spans {
				if x.From <= f.From && f.To <= x.To {
					in++
				}
			}
			if in != 1 {
				t.Fatalf("Hidden of %v: %v: %v is in %d", l, spans, f, in)
			}
		}
	}
}

// 15.5: a fold has the runes that it had, with what is inserted between two of them, but not at an end.
func TestInsertedAtEnds(t *testing.T) {
	for _, x := range all(7) {
		for at := range 8 {
			u, e := of(t, 7, []api.Span{x}).Shift([]patch.Change{change(at, at, at, at+3)})
			want := x
			if at <= x.From {
				want.From += 3
			}
			if at < x.To {
				want.To += 3
			}
			if e != api.OK || !slices.Equal(u.All(), []api.Span{want}) {
				t.Errorf("%v, behind 3 inserted at %d: %v, %v", x, at, u.All(), e)
			}
		}
	}
}

// A nil set, and one that nobody made, have none, for a text of 0 runes.
func TestNil(t *testing.T) {
	for _, s := range []*folds.Set{nil, {}} {
		has(t, s, 0, nil)
		for _, x := range list(0, 0, 0, 1, 1, 1, 1, 0, -1, 0) {
			if u, e := s.Add(x); u != nil || e != api.ErrArg {
				t.Errorf("Add(%v): %v, %v", x, u, e)
			}
			u, n, e := s.Remove(x)
			if x != span(0, 0) && (u != nil || n != 0 || e != api.ErrArg) {
				t.Errorf("Remove(%v): %v, %d, %v", x, u, n, e)
			}
			if x == span(0, 0) && (u == nil || n != 0 || e != api.OK) {
				t.Errorf("Remove(%v): %v, %d, %v", x, u, n, e)
			}
			has(t, u, 0, nil)
		}
		for _, p := range [][]patch.Change{{change(0, 1, 0, 0)}, {change(0, 1, 0, 1)}, {change(1, 1, 1, 2)}} {
			if u, e := s.Shift(p); u != nil || e != api.ErrArg {
				t.Errorf("Shift(%v): %v, %v", p, u, e)
			}
		}
		for n, p := range [][]patch.Change{nil, {change(0, 0, 0, 1)}, {change(0, 0, 0, 2)}} {
			u, e := s.Shift(p)
			if u == nil || e != api.OK {
				t.Fatalf("Shift(%v): %v, %v", p, u, e)
			}
			has(t, u, n, nil)
		}
	}
}

// R3: what is handed in stays, spare room too, and is not kept; answers share nothing with the set, nor with each other.
func TestWhatIsHandedInStays(t *testing.T) {
	l := list(9, 10, 6, 9, 2, 9, 8, 9, 3, 5, 2, 4, 1, 2)
	room, changes := slices.Clone(l), []patch.Change{change(1, 1, 1, 3), change(4, 5, 6, 6), change(9, 9, 9, 0)}
	wasChanges := slices.Clone(changes)
	s := of(t, 10, room[1:6])
	u, e := s.Add(room[6])
	if e != api.OK {
		t.Fatal(e)
	}
	v, e := u.Shift(changes[:2])
	w, n, f := u.Remove(span(10, 10))
	if e != api.OK || n != 0 || f != api.OK || !slices.Equal(room, l) || !slices.Equal(changes, wasChanges) {
		t.Fatalf("%v, %v, or an argument has changed: %v, %v", e, f, room, changes)
	}
	want := shifted(t, l[1:7], changes[:2])
	clear(room)
	clear(changes)
	for _, x := range []*folds.Set{s, u, v, w} {
		all, hidden := x.All(), x.Hidden()
		for _, answer := range []func() []api.Span{x.All, x.Hidden} {
			one, two := answer(), answer()
			was := slices.Clone(two)
			clear(one[:cap(one)])
			if !slices.Equal(two, was) || !slices.Equal(x.All(), all) || !slices.Equal(x.Hidden(), hidden) {
				t.Errorf("%v, then %v and %v", was, x.All(), x.Hidden())
			}
		}
	}
	has(t, s, 10, l[1:6])
	has(t, u, 10, l[1:7])
	has(t, v, 11, want)
	has(t, w, 10, l[1:7])
}
