package anchor_test

import (
	"math"
	"slices"
	"testing"

	"bodkin/anchor"
	"bodkin/api"
	"bodkin/patch"
)

// mix is a number from 0 to below n that is hard to foresee and ever the same.
func mix(seed, n int) int {
	x := uint64(seed)*0x9e3779b97f4a7c15 + 0x632be59bd9b4e019
	x ^= x >> 29
	x *= 0xbf58476d1ce4e5b9
	x ^= x >> 32
	return int(x % uint64(n))
}

type (
	anchors = []anchor.Anchor
	changes = []patch.Change
)

// change is what stood from a to b, and stands from c to d now.
func change(a, b, c, d int) patch.Change {
	return patch.Change{Old: api.Span{From: a, To: b}, New: api.Span{From: c, To: d}}
}

// of is the set of anchors of a text of n runes.
func of(t *testing.T, n int, l anchors) *anchor.Set {
	t.Helper()
	s, e := anchor.New(n, l)
	if s == nil || e != api.OK {
		t.Fatalf("New(%d, %v): %v, %v", n, l, s, e)
	}
	return s
}

// ordered are anchors in their order, found by holding each against each.
func ordered(l anchors) anchors {
	all := make(anchors, len(l))
	for _, a := range l {
		ahead := 0
		for _, b := range l {
			if b.At < a.At || b.At == a.At && b.ID < a.ID {
				ahead++
			}
		}
		all[ahead] = a
	}
	return all
}

// has tells what is wrong with a set that should have anchors, and no other one.
func has(t *testing.T, s *anchor.Set, l anchors) {
	t.Helper()
	if all := s.All(); !slices.Equal(all, ordered(l)) {
		t.Fatalf("All: %v, not %v", all, ordered(l))
	}
	for _, a := range l {
		if b, e := s.Get(a.ID); b != a || e != api.OK {
			t.Fatalf("Get(%d): %v, %v, not %v", a.ID, b, e, a)
		}
	}
}

// ends tells whether a set is one for a text of n runes: what is changed up to its end is right, and nothing behind.
func ends(s *anchor.Set, n int) bool {
	_, e := s.Shift(changes{change(n, n, n, n+1)})
	_, f := s.Shift(changes{change(n+1, n+1, n+1, n+2)})
	_, g := s.Shift(changes{change(0, n+1, 0, 0)})
	return e == api.OK && f == api.ErrArg && g == api.ErrArg
}

// some are k anchors of a text of n runes, with unlike IDs.
func some(n, k, seed int) anchors {
	var l anchors
	for i := range k {
		l = append(l, anchor.Anchor{ID: mix(seed+3*i, 1000)*1000 + i - 500000, At: mix(seed+3*i+1, n+1), Bias: mix(seed+3*i+2, 2)})
	}
	return l
}

// everywhere are anchors at each place of a text of n runes (24 at most) by each bias, two of each; their IDs are in no order.
func everywhere(n int) anchors {
	var l anchors
	for i := range 4 * (n + 1) {
		l = append(l, anchor.Anchor{ID: 37*i%101 - 50, At: i / 4, Bias: i % 2})
	}
	return l
}

// A text is told by the names of its runes here, each of them another one, so that what is kept is seen.

// names are n of them, from first on.
func names(first, n int) []int {
	var l []int
	for i := range n {
		l = append(l, first+i)
	}
	return l
}

// put is a text behind a patch.
func put(text []int, l changes) []int {
	for _, c := range slices.Backward(l) {
		come := names(100000+1000*c.New.From, c.New.To-c.New.From)
		text = slices.Concat(text[:c.Old.From], come, text[c.Old.To:])
	}
	return text
}

// goes is where a place goes: to the left behind the last rune ahead of it that is kept, to the right ahead of the first one behind it.
func goes(was, is []int, at, bias int) int {
	if bias == api.Right {
		for at < len(was) && !slices.Contains(is, was[at]) {
			at++
		}
		if at == len(was) {
			return len(is)
		}
		return slices.Index(is, was[at])
	}
	for at > 0 && !slices.Contains(is, was[at-1]) {
		at--
	}
	if at == 0 {
		return 0
	}
	return slices.Index(is, was[at-1]) + 1
}

// unlike is the normal patch that makes one text another one, in which what is in both stands in the same order.
func unlike(was, is []int) changes {
	var l changes
	for i, j := 0, 0; i < len(was) || j < len(is); {
		if i < len(was) && j < len(is) && was[i] == is[j] {
			i, j = i+1, j+1
			continue
		}
		c := change(i, i, j, j)
		for i < len(was) && !slices.Contains(is, was[i]) {
			i++
		}
		for j < len(is) && !slices.Contains(was, is[j]) {
			j++
		}
		c.Old.To, c.New.To = i, j
		l = append(l, c)
	}
	return l
}

// every are all normal patches of a text of n runes that put at most more runes between what they keep.
func every(n, more int) []changes {
	var all []changes
	was := names(0, n)
	var grow func(is []int, next int)
	grow = func(is []int, next int) { // all that is ahead of the rune next is done with
		for k := range more + 1 {
			come := slices.Concat(is, names(100+10*len(is), k))
			all = append(all, unlike(was, come))
			for i := next; i < n; i++ {
				grow(slices.Concat(come, []int{i}), i+1)
			}
		}
	}
	grow(nil, 0)
	return all
}

// one is a normal patch of a text of n runes.
func one(n, seed int) changes {
	var is []int
	for i := range n + 1 {
		if mix(seed+3*i, 4) == 0 {
			is = append(is, names(1000+10*i, 1+mix(seed+3*i+1, 3))...)
		}
		if i < n && mix(seed+3*i+2, 5) < 3 {
			is = append(is, i)
		}
	}
	return unlike(names(0, n), is)
}

// shifts are texts' lengths, each with a patch that is right for such a text.
func shifts() ([]int, []changes) {
	var lengths []int
	var patches []changes
	for n := range 5 {
		for _, l := range every(n, 2) {
			lengths, patches = append(lengths, n), append(patches, l)
		}
	}
	for seed := range 300 {
		n := mix(seed, 25)
		lengths, patches = append(lengths, n), append(patches, one(n, 1000*seed))
	}
	return lengths, patches
}

// The document's example.
func TestExample(t *testing.T) {
	s := of(t, 2, anchors{{ID: 1, At: 2, Bias: api.Left}, {ID: 2, At: 2, Bias: api.Right}})
	u, e := s.Shift(changes{change(2, 2, 2, 4)})
	if e != api.OK {
		t.Fatal(e)
	}
	has(t, u, anchors{{ID: 1, At: 2, Bias: api.Left}, {ID: 2, At: 4, Bias: api.Right}})
}

// 11.1: what is handed in is all there, in its order, and found by its ID.
func TestNew(t *testing.T) {
	for seed := range 300 {
		n := []int{0, 1, 5, 1000, api.MaxInt}[mix(seed, 5)]
		l := some(n, mix(seed+1, anchor.Most+1), 1000*seed)
		s := of(t, n, l)
		has(t, s, l)
		if !slices.Equal(s.All(), s.All()) {
			t.Fatalf("All twice of %v: %v", l, s.All())
		}
	}
	for n := range 6 {
		has(t, of(t, n, everywhere(n)), everywhere(n))
	}
}

// 11.1: an ID is any number, and orders anchors of one place, whatever their biases are.
func TestNewAnyID(t *testing.T) {
	l := anchors{
		{ID: math.MaxInt, At: 1, Bias: api.Left},
		{ID: 0, At: 1, Bias: api.Right},
		{ID: math.MinInt, At: 1, Bias: api.Right},
		{ID: -1, At: 1, Bias: api.Left},
		{ID: 5, At: 0, Bias: api.Right},
		{ID: -5, At: 2, Bias: api.Left},
	}
	want := anchors{l[4], l[2], l[3], l[1], l[0], l[5]}
	s := of(t, 2, l)
	if all := s.All(); !slices.Equal(all, want) {
		t.Errorf("All: %v", all)
	}
	has(t, s, l)
}

// 11.1: how long a text may be, and how many anchors there may be.
func TestNewEdges(t *testing.T) {
	full := some(10, anchor.Most, 1)
	for _, n := range []int{0, 1, api.MaxInt} {
		has(t, of(t, n, anchors{{At: n}, {ID: 1, Bias: api.Right}}), anchors{{At: n}, {ID: 1, Bias: api.Right}})
		has(t, of(t, n, nil), nil)
		has(t, of(t, n, anchors{}), nil)
	}
	if anchor.Most != 200 {
		t.Errorf("Most: %d", anchor.Most)
	}
	has(t, of(t, 10, full), full)
}

// 11.1, R4: the first thing that is wrong is told, and there is no set then.
func TestNewErrors(t *testing.T) {
	at := func(places ...int) anchors {
		var l anchors
		for i, n := range places {
			l = append(l, anchor.Anchor{ID: i, At: n})
		}
		return l
	}
	by := func(bias int) anchors { return anchors{{ID: 1}, {ID: 2, Bias: bias}} }
	for i, c := range []struct {
		n int
		l anchors
		e api.Errno
	}{
		{-1, nil, api.ErrArg},
		{math.MinInt, nil, api.ErrArg},
		{api.MaxInt + 1, nil, api.ErrArg},
		{math.MaxInt, nil, api.ErrArg},
		{-1, make(anchors, anchor.Most+1), api.ErrArg},
		{api.MaxInt + 1, make(anchors, anchor.Most+1), api.ErrArg},
		{9, make(anchors, anchor.Most+1), api.ErrFull},
		{9, some(9, anchor.Most+1, 1), api.ErrFull},
		{9, slices.Repeat(at(-1), anchor.Most+1), api.ErrFull},
		{9, make(anchors, anchor.Most), api.ErrSame},
		{9, at(0, 9, 10), api.ErrArg},
		{9, at(-1), api.ErrArg},
		{9, at(math.MinInt), api.ErrArg},
		{9, at(math.MaxInt), api.ErrArg},
		{0, at(0, 1), api.ErrArg},
		{api.MaxInt, at(api.MaxInt + 1), api.ErrArg},
		{9, by(-1), api.ErrArg},
		{9, by(2), api.ErrArg},
		{9, by(math.MinInt), api.ErrArg},
		{9, by(math.MaxInt), api.ErrArg},
		{9, anchors{{ID: 3, At: 1}, {ID: 4, At: 1}, {ID: 3, At: 2, Bias: api.Right}}, api.ErrSame},
		{9, anchors{{ID: 3}, {ID: 3, At: 10}}, api.ErrArg},
		{9, anchors{{ID: 3}, {ID: 3, Bias: 2}}, api.ErrArg},
		{9, anchors{{ID: 3}, {ID: 3}, {ID: 4, At: 10}}, api.ErrSame},
		{9, anchors{{ID: 3}, {ID: 4, At: 10}, {ID: 3}}, api.ErrArg},
		{9, anchors{{ID: 3, At: 10}, {ID: 3}}, api.ErrArg},
	} {
		if s, e := anchor.New(c.n, c.l); s != nil || e != c.e {
			t.Errorf("%d: New(%d, %v): %v, %v", i, c.n, c.l, s, e)
		}
	}
}

// 11.1, R4: an ID that no anchor has.
func TestGetNone(t *testing.T) {
	s := of(t, 9, anchors{{ID: 3, At: 1, Bias: api.Right}, {ID: -3, At: 2}})
	for _, id := range []int{0, 1, 2, 4, math.MinInt, math.MaxInt} {
		if a, e := s.Get(id); a != (anchor.Anchor{}) || e != api.ErrNone {
			t.Errorf("Get(%d): %v, %v", id, a, e)
		}
	}
}

// 11.2: each anchor goes where its place goes, and keeps its ID and its bias; the set that was stays.
func TestShift(t *testing.T) {
	lengths, patches := shifts()
	for i, p := range patches {
		n := lengths[i]
		l := everywhere(n)
		if n > 5 {
			l = some(n, mix(i, 60), i)
		}
		was := names(0, n)
		is := put(was, p)
		var want anchors
		for _, a := range l {
			want = append(want, anchor.Anchor{ID: a.ID, At: goes(was, is, a.At, a.Bias), Bias: a.Bias})
		}
		s := of(t, n, l)
		u, e := s.Shift(p)
		if u == nil || e != api.OK {
			t.Fatalf("%d: Shift(%v): %v, %v", n, p, u, e)
		}
		has(t, u, want)
		has(t, s, l)
		if !ends(u, len(is)) || !ends(s, n) {
			t.Fatalf("%d: Shift(%v) is for another text than one of %d, or the set that was is", n, p, len(is))
		}
	}
}

// 11.2: a patch of nothing; one that takes all away; and shifting by one patch behind the other.
func TestShiftOrdinary(t *testing.T) {
	l := everywhere(6)
	s := of(t, 6, l)
	same, e := s.Shift(nil)
	if e != api.OK {
		t.Fatal(e)
	}
	has(t, same, l)
	gone, e := same.Shift(changes{change(0, 6, 0, 0)})
	if e != api.OK {
		t.Fatal(e)
	}
	want := slices.Clone(l)
	for i := range want {
		want[i].At = 0
	}
	has(t, gone, want)
	come, e := gone.Shift(changes{change(0, 0, 0, 3)})
	if e != api.OK {
		t.Fatal(e)
	}
	for i, a := range want {
		want[i].At = 3 * a.Bias
	}
	has(t, come, want)
}

// 11.2: two anchors change places, where one that is ahead goes to the right, and one that is behind goes to the left.
func TestShiftTurnsOrder(t *testing.T) {
	s := of(t, 9, anchors{{ID: 1, At: 3, Bias: api.Right}, {ID: 2, At: 5, Bias: api.Left}, {ID: 3, At: 5, Bias: api.Right}, {ID: 0, At: 6, Bias: api.Right}})
	u, e := s.Shift(changes{change(2, 6, 2, 4)})
	want := anchors{{ID: 2, At: 2, Bias: api.Left}, {ID: 0, At: 4, Bias: api.Right}, {ID: 1, At: 4, Bias: api.Right}, {ID: 3, At: 4, Bias: api.Right}}
	if all := u.All(); e != api.OK || !slices.Equal(all, want) {
		t.Errorf("Shift: %v, %v", e, all)
	}
}

// 11.2: places behind the text, and texts that are too long, whether there is an anchor or none.
func TestShiftEdges(t *testing.T) {
	const end = api.MaxInt
	for i, c := range []struct {
		n int
		p changes
		e api.Errno
	}{
		{0, changes{change(0, 0, 0, 1)}, api.OK},
		{0, changes{change(0, 1, 0, 0)}, api.ErrArg},
		{0, changes{change(1, 1, 1, 2)}, api.ErrArg},
		{4, changes{change(4, 4, 4, 5)}, api.OK},
		{4, changes{change(5, 5, 5, 6)}, api.ErrArg},
		{4, changes{change(3, 4, 3, 3)}, api.OK},
		{4, changes{change(3, 5, 3, 3)}, api.ErrArg},
		{4, changes{change(4, 5, 4, 5)}, api.ErrArg},
		{4, changes{change(0, 2, 0, 0), change(3, 4, 1, 9)}, api.OK},
		{4, changes{change(0, 2, 0, 0), change(3, 5, 1, 9)}, api.ErrArg},
		{4, changes{change(0, 2, 0, 0), change(5, 5, 3, 9)}, api.ErrArg},
		{4, changes{change(0, 0, 0, end-4)}, api.OK},
		{4, changes{change(0, 0, 0, end-3)}, api.ErrArg},
		{4, changes{change(0, 1, 0, end-3)}, api.OK},
		{4, changes{change(0, 1, 0, end-2)}, api.ErrArg},
		{4, changes{change(0, 4, 0, end)}, api.OK},
		{4, changes{change(0, 0, 0, end)}, api.ErrArg},
		{4, changes{change(0, 1, 0, end-10), change(2, 2, end-9, end-2)}, api.OK},
		{4, changes{change(0, 1, 0, end-10), change(2, 2, end-9, end-1)}, api.ErrArg},
		{end, nil, api.OK},
		{end, changes{change(0, end, 0, end)}, api.OK},
		{end, changes{change(0, end, 0, 0)}, api.OK},
		{end, changes{change(0, 0, 0, 1)}, api.ErrArg},
		{end, changes{change(end-1, end, end-1, end)}, api.OK},
		{end, changes{change(0, 1, 0, 0), change(end-1, end-1, end-2, end-1)}, api.OK},
		{end, changes{change(0, 1, 0, 0), change(end-1, end-1, end-2, end)}, api.ErrArg},
		{end - 1, changes{change(0, 0, 0, 1)}, api.OK},
		{end - 1, changes{change(0, 0, 0, 2)}, api.ErrArg},
		{end - 1, changes{change(end-1, end, end-1, end-1)}, api.ErrArg},
	} {
		for _, l := range []anchors{nil, {{ID: 1, At: c.n}, {ID: 2, At: c.n, Bias: api.Right}, {ID: 3}}} {
			s := of(t, c.n, l)
			u, e := s.Shift(c.p)
			if e != c.e || (u == nil) != (e != api.OK) {
				t.Errorf("%d: Shift(%v) of %d: %v, %v", i, c.p, c.n, u, e)
			}
			has(t, s, l)
		}
	}
}

// 11.2: what is not normal is told ahead of what is not in the text.
func TestShiftNotNormal(t *testing.T) {
	for _, p := range []changes{
		{{}},
		{change(1, 2, 2, 3)},
		{change(1, 1, 1, 1)},
		{change(2, 1, 2, 2)},
		{change(-1, 1, -1, 1)},
		{change(0, 1, 0, 1), change(1, 2, 1, 2)},
		{change(3, 4, 3, 4), change(0, 1, 0, 1)},
		{change(20, 20, 20, 20)},
		{change(0, 20, 1, 2)},
		{change(20, 21, 20, 21), change(21, 22, 21, 22)},
		{change(0, 0, 0, api.MaxInt+1)},
		{change(math.MinInt, math.MaxInt, math.MinInt, math.MaxInt)},
		{change(0, math.MaxInt, 0, math.MaxInt)},
	} {
		for _, s := range []*anchor.Set{nil, of(t, 9, nil), of(t, 9, everywhere(9))} {
			if u, e := s.Shift(p); u != nil || e != api.ErrForm {
				t.Errorf("Shift(%v): %v, %v", p, u, e)
			}
		}
	}
}

// 11.2: all pairs of places, in their order and against it, and numbers that are no places.
func TestWithin(t *testing.T) {
	places := append(names(-2, 14), math.MinInt, math.MaxInt, api.MaxInt, api.MaxInt+1)
	for seed := range 40 {
		l := some(9, mix(seed, 30), 100*seed)
		s := of(t, 9, l)
		for _, from := range places {
			for _, to := range places {
				want := slices.DeleteFunc(ordered(l), func(a anchor.Anchor) bool { return a.At < from || a.At > to })
				if got := s.Within(from, to); !slices.Equal(got, want) {
					t.Fatalf("Within(%d, %d) of %v: %v, not %v", from, to, l, got, want)
				}
			}
		}
		if all := s.Within(0, 9); !slices.Equal(all, s.All()) {
			t.Fatalf("Within all of %v: %v", l, all)
		}
	}
}

// 11.3: each rune that is kept stays on its side of each anchor; anchors of one place and bias stay together.
func TestWhatIsAheadStaysAhead(t *testing.T) {
	lengths, patches := shifts()
	for i, p := range patches {
		n := lengths[i]
		was := names(0, n)
		is := put(was, p)
		u, e := of(t, n, everywhere(n)).Shift(p)
		if e != api.OK {
			t.Fatal(e)
		}
		together := map[[2]int]int{}
		for _, a := range everywhere(n) {
			b, _ := u.Get(a.ID)
			for j, name := range is {
				if name < n && (name < a.At) != (j < b.At) {
					t.Fatalf("%v: the rune %d is on the other side of %v than of %v", p, name, b, a)
				}
			}
			if at, met := together[[2]int{a.At, a.Bias}]; met && at != b.At {
				t.Fatalf("%v: %v is at %d, another one at %d", p, a, b.At, at)
			}
			together[[2]int{a.At, a.Bias}] = b.At
		}
	}
}

// touched tells whether a place is in a change of a patch, or at an end of it.
func touched(p changes, at int) bool {
	return slices.ContainsFunc(p, func(c patch.Change) bool { return c.Old.From <= at && at <= c.Old.To })
}

// 11.4: there and back.
func TestBack(t *testing.T) {
	lengths, patches := shifts()
	for i, p := range patches {
		var l anchors
		for _, a := range everywhere(lengths[i]) {
			if !touched(p, a.At) {
				l = append(l, a)
			}
		}
		u, e := of(t, lengths[i], l).Shift(p)
		if e != api.OK {
			t.Fatal(e)
		}
		s, e := u.Shift(patch.Invert(p))
		if e != api.OK {
			t.Fatal(e)
		}
		has(t, s, l)
	}
}

// A nil set has none, for a text of 0 runes; it is shifted to one for the text that there is then.
func TestNil(t *testing.T) {
	var s *anchor.Set
	if l := s.All(); len(l) != 0 {
		t.Errorf("All: %v", l)
	}
	if l := s.Within(math.MinInt, math.MaxInt); len(l) != 0 {
		t.Errorf("Within: %v", l)
	}
	if a, e := s.Get(0); a != (anchor.Anchor{}) || e != api.ErrNone {
		t.Errorf("Get: %v, %v", a, e)
	}
	for _, p := range []changes{{change(0, 1, 0, 0)}, {change(0, 1, 0, 1)}, {change(1, 1, 1, 2)}} {
		if u, e := s.Shift(p); u != nil || e != api.ErrArg {
			t.Errorf("Shift(%v): %v, %v", p, u, e)
		}
	}
	for n, p := range []changes{nil, {change(0, 0, 0, 1)}, {change(0, 0, 0, 2)}} {
		u, e := s.Shift(p)
		if u == nil || e != api.OK || !ends(u, n) {
			t.Fatalf("Shift(%v): %v, %v", p, u, e)
		}
		has(t, u, nil)
	}
	if u, e := s.Shift(changes{change(0, 0, 0, api.MaxInt)}); u == nil || e != api.OK {
		t.Errorf("Shift to the longest text: %v, %v", u, e)
	}
	if !ends(s, 0) || !ends(of(t, 0, nil), 0) {
		t.Error("it is not for a text of 0 runes")
	}
}

// R3: what is handed in stays, spare room too, and is not kept; answers share nothing with the set, nor with each other.
func TestWhatIsHandedInStays(t *testing.T) {
	room := append(everywhere(5), anchor.Anchor{ID: 900, At: 5})
	l := room[:len(room)-1]
	spare := changes{change(1, 1, 1, 3), change(4, 5, 6, 6), change(9, 9, 9, 0)}
	was, wasSpare, want := slices.Clone(room), slices.Clone(spare), slices.Clone(l)
	s := of(t, 5, l)
	u, e := s.Shift(spare[:2])
	if e != api.OK || !slices.Equal(room, was) || !slices.Equal(spare, wasSpare) {
		t.Fatalf("%v, or an argument has changed: %v, %v", e, room, spare)
	}
	shifted := u.All()
	clear(room)
	clear(spare)
	for name, answer := range map[string]func(*anchor.Set) anchors{
		"All":    func(s *anchor.Set) anchors { return s.All() },
		"Within": func(s *anchor.Set) anchors { return s.Within(0, 9) },
	} {
		one := answer(s)
		clear(one[:cap(one)])
		one = answer(u)
		clear(one[:cap(one)])
		has(t, s, want)
		has(t, u, shifted)
		if got := answer(s); !slices.Equal(got, ordered(want)) {
			t.Errorf("%s: %v", name, got)
		}
	}
}
