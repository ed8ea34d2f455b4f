package inlays_test

import (
	"math"
	"slices"
	"strings"
	"testing"

	"bodkin/api"
	"bodkin/inlays"
	"bodkin/patch"
)

// mix is a number from 0 to below n that is hard to foresee and ever the same.
func mix(seed, n int) int {
	x := uint64(seed)*0x9e3779b97f4a7c15 + 0x632be59bd9b4e019
	x ^= x >> 29
	x *= 0xbf58476d1ce4e5b9
	x ^= x >> 32
	return int(x % uint64(n))
}

// change is what stood from a to b, and stands from c to d now.
func change(a, b, c, d int) patch.Change {
	return patch.Change{Old: api.Span{From: a, To: b}, New: api.Span{From: c, To: d}}
}

// of is the set of inlays, for a text of n runes.
func of(t *testing.T, n int, l []api.Inlay) *inlays.Set {
	t.Helper()
	s, e := inlays.New(n, l)
	if s == nil || e != api.OK {
		t.Fatalf("New(%d, %v): %v, %v", n, l, s, e)
	}
	return s
}

// ahead tells whether an inlay is ahead of another one.
func ahead(a, b api.Inlay) bool {
	switch {
	case a.At != b.At:
		return a.At < b.At
	case a.Key != b.Key:
		return a.Key < b.Key
	}
	return a.ID < b.ID
}

// ordered are inlays in their order, found by holding each against each.
func ordered(l []api.Inlay) []api.Inlay {
	all := make([]api.Inlay, len(l))
	for _, a := range l {
		n := 0
		for _, b := range l {
			if ahead(b, a) {
				n++
			}
		}
		all[n] = a
	}
	return all
}

// has tells what is wrong with a set that should have inlays, whose texts are clean, and no other one, for a text of n runes.
func has(t *testing.T, s *inlays.Set, n int, l []api.Inlay) {
	t.Helper()
	if s.Len() != n {
		t.Fatalf("Len: %d, not %d", s.Len(), n)
	}
	if all := s.All(); !slices.Equal(all, ordered(l)) {
		t.Fatalf("All: %v, not %v", all, ordered(l))
	}
}

// some are k inlays of a text of n runes, with unlike IDs, and few places and keys.
func some(n, k, seed int) []api.Inlay {
	texts := []string{"a", "bc", "\u4e00", "\ufffd\t", strings.Repeat("\U0001f600", api.MaxInlay)}
	var l []api.Inlay
	for i := range k {
		at := seed + 5*i
		l = append(l, api.Inlay{
			ID:   1 + k*mix(at, 100) + i,
			At:   mix(at+1, min(n+1, 12)),
			Bias: mix(at+2, 2),
			Key:  mix(at+3, 3) - 1,
			Text: texts[mix(at+4, len(texts))],
		})
	}
	return l
}

// everywhere are inlays at each place of a text of n runes (14 at most) by each bias, two of each; their IDs and keys are in no order.
func everywhere(n int) []api.Inlay {
	var l []api.Inlay
	for i := range 4 * (n + 1) {
		l = append(l, api.Inlay{ID: 1 + 37*i%101, At: i / 4, Bias: i % 2, Key: 5 * i % 3, Text: "x"})
	}
	return l
}

// The document's example.
func TestExample(t *testing.T) {
	s := of(t, 4, []api.Inlay{{ID: 2, At: 3, Key: 5, Text: "b"}, {ID: 1, At: 3, Key: 5, Text: "a"}, {ID: 3, At: 3, Key: 4, Text: "c"}})
	want := []api.Inlay{{ID: 3, At: 3, Key: 4, Text: "c"}, {ID: 1, At: 3, Key: 5, Text: "a"}, {ID: 2, At: 3, Key: 5, Text: "b"}}
	if all := s.All(); !slices.Equal(all, want) {
		t.Errorf("All: %v", all)
	}
}

// 13.1: what is handed in is all there, in its order.
func TestNew(t *testing.T) {
	for seed := range 300 {
		n := []int{0, 1, 5, 1000, api.MaxInt}[mix(seed, 5)]
		l := some(n, mix(seed+1, api.MaxInlays+1), 1000*seed)
		s := of(t, n, l)
		has(t, s, n, l)
		if !slices.Equal(s.All(), s.All()) {
			t.Fatalf("All twice of %v: %v", l, s.All())
		}
	}
	for n := range 14 {
		has(t, of(t, n, everywhere(n)), n, everywhere(n))
	}
}

// 13.1: At comes first, then Key, then ID; neither the bias nor the text orders, nor how they were handed in.
func TestOrder(t *testing.T) {
	want := []api.Inlay{
		{ID: 9, At: 0, Key: math.MaxInt, Bias: api.Right, Text: "z"},
		{ID: 8, At: 1, Key: math.MinInt, Bias: api.Right, Text: "y"},
		{ID: 7, At: 1, Key: -1, Bias: api.Left, Text: "x"},
		{ID: 3, At: 1, Key: 0, Bias: api.Right, Text: "w"},
		{ID: 4, At: 1, Key: 0, Bias: api.Left, Text: "v"},
		{ID: math.MaxInt, At: 1, Key: 0, Bias: api.Right, Text: "a"},
		{ID: 2, At: 1, Key: math.MaxInt, Bias: api.Left, Text: "b"},
		{ID: 1, At: 2, Key: math.MinInt, Bias: api.Left, Text: "c"},
	}
	for seed := range 500 {
		l := slices.Clone(want)
		for i := range l {
			j := i + mix(100*seed+i, len(l)-i)
			l[i], l[j] = l[j], l[i]
		}
		if all := of(t, 2, l).All(); !slices.Equal(all, want) {
			t.Fatalf("All of %v: %v", l, all)
		}
	}
}

// 13.1: how long a text may be, where an inlay may stand, which IDs it may have, and how many there may be.
func TestNewEdges(t *testing.T) {
	for _, n := range []int{0, 1, api.MaxInt} {
		l := []api.Inlay{{ID: 1, At: n, Text: "a"}, {ID: math.MaxInt, At: 0, Bias: api.Right, Text: "b"}}
		has(t, of(t, n, l), n, l)
		has(t, of(t, n, nil), n, nil)
		has(t, of(t, n, []api.Inlay{}), n, nil)
	}
	full := some(10, api.MaxInlays, 1)
	has(t, of(t, 10, full), 10, full)
}

// 13.1: how long an inlay's text is, in runes and not in bytes, and what it is when it is clean.
func TestNewTexts(t *testing.T) {
	most, over := api.MaxInlay, api.MaxInlay+1
	for _, c := range []struct {
		text, want string
		e          api.Errno
	}{
		{"a", "a", api.OK},
		{"\x00", "\x00", api.OK},
		{"\t\r\u2028", "\t\r\u2028", api.OK},
		{"\ufffd", "\ufffd", api.OK},
		{"\xff", "\ufffd", api.OK},
		{"a\xe4\xb8b", "a\ufffd\ufffdb", api.OK},
		{"\xed\xa0\x80", "\ufffd\ufffd\ufffd", api.OK},
		{"\xc0\x8a", "\ufffd\ufffd", api.OK},
		{strings.Repeat("a", most), strings.Repeat("a", most), api.OK},
		{strings.Repeat("\U0001f600", most), strings.Repeat("\U0001f600", most), api.OK},
		{strings.Repeat("\xff", most), strings.Repeat("\ufffd", most), api.OK},
		{strings.Repeat("a", over), "", api.ErrLong},
		{strings.Repeat("\U0001f600", over), "", api.ErrLong},
		{strings.Repeat("\xff", over), "", api.ErrLong},
		{strings.Repeat("\xf0\x9f\x98", 14), "", api.ErrLong},
		{strings.Repeat("\n", over), "", api.ErrLong},
		{"", "", api.ErrForm},
		{"\n", "", api.ErrForm},
		{"\nab", "", api.ErrForm},
		{"ab\n", "", api.ErrForm},
		{"a\r\nb", "", api.ErrForm},
		{"\xe4\n\xb8", "", api.ErrForm},
		{strings.Repeat("a", most-1) + "\n", "", api.ErrForm},
	} {
		s, e := inlays.New(1, []api.Inlay{{ID: 1, At: 1, Text: c.text}})
		if e != c.e || (s == nil) != (e != api.OK) {
			t.Errorf("New of %q: %v, %v", c.text, s, e)
			continue
		}
		if e == api.OK {
			has(t, s, 1, []api.Inlay{{ID: 1, At: 1, Text: c.want}})
		}
	}
}

// faults are inlays that are wrong in a text of 9 runes, each by itself, and what is wrong.
func faults() map[api.Inlay]api.Errno {
	long := strings.Repeat("a", api.MaxInlay+1)
	return map[api.Inlay]api.Errno{
		{ID: 0, Text: "a"}:                           api.ErrArg,
		{ID: -1, Text: "a"}:                          api.ErrArg,
		{ID: math.MinInt, Text: "a"}:                 api.ErrArg,
		{ID: 5, At: -1, Text: "a"}:                   api.ErrArg,
		{ID: 5, At: 10, Text: "a"}:                   api.ErrArg,
		{ID: 5, At: math.MinInt, Text: "a"}:          api.ErrArg,
		{ID: 5, At: math.MaxInt, Text: "a"}:          api.ErrArg,
		{ID: 5, Bias: -1, Text: "a"}:                 api.ErrArg,
		{ID: 5, Bias: 2, Text: "a"}:                  api.ErrArg,
		{ID: 5, Bias: math.MaxInt, Text: "a"}:        api.ErrArg,
		{ID: 0, Text: long}:                          api.ErrArg,
		{ID: 5, At: 10}:                              api.ErrArg,
		{ID: 5, Bias: 2, Text: "\n"}:                 api.ErrArg,
		{ID: 5, Text: long}:                          api.ErrLong,
		{ID: 5, Text: long + "\n"}:                   api.ErrLong,
		{ID: 5, At: 9, Bias: api.Right, Text: ""}:    api.ErrForm,
		{ID: 5, At: 9, Bias: api.Right, Text: "a\n"}: api.ErrForm,
	}
}

// 13.1, R4: what is wrong with an inlay is told, wherever it stands, unless there is something wrong ahead of it.
func TestNewWrongInlay(t *testing.T) {
	right := []api.Inlay{{ID: 1, At: 9, Text: "a"}, {ID: 2, Bias: api.Right, Text: "b"}, {ID: 3, At: 4, Text: "\xff"}}
	for x, want := range faults() {
		for at := range len(right) + 1 {
			l := slices.Insert(slices.Clone(right), at, x)
			if s, e := inlays.New(9, l); s != nil || e != want {
				t.Errorf("New(9, %v): %v, %v, not %v", l, s, e, want)
			}
			l = append(l, l[0])
			if s, e := inlays.New(9, l); s != nil || e != want {
				t.Errorf("New(9, %v): %v, %v, not %v", l, s, e, want)
			}
			l = slices.Insert(slices.Clone(l), 0, right[0], right[0])
			if s, e := inlays.New(9, l); s != nil || e != api.ErrSame {
				t.Errorf("New(9, %v): %v, %v", l, s, e)
			}
		}
		for y, other := range faults() {
			if s, e := inlays.New(9, []api.Inlay{right[0], x, y}); s != nil || e != want {
				t.Errorf("New of %v ahead of %v: %v, %v, not %v (nor %v)", x, y, s, e, want, other)
			}
		}
	}
}

// 13.1: the number comes ahead of how many there are, that ahead of each one; an ID that is there ahead, whatever else is unlike.
func TestNewErrors(t *testing.T) {
	full, many := some(9, api.MaxInlays, 1), some(9, api.MaxInlays+1, 1)
	one := api.Inlay{ID: 7, At: 1, Text: "a"}
	for i, c := range []struct {
		n int
		l []api.Inlay
		e api.Errno
	}{
		{-1, nil, api.ErrArg},
		{math.MinInt, nil, api.ErrArg},
		{api.MaxInt + 1, nil, api.ErrArg},
		{math.MaxInt, nil, api.ErrArg},
		{-1, many, api.ErrArg},
		{api.MaxInt + 1, many, api.ErrArg},
		{-1, []api.Inlay{{ID: 1}}, api.ErrArg},
		{9, many, api.ErrFull},
		{9, make([]api.Inlay, api.MaxInlays+1), api.ErrFull},
		{9, slices.Repeat([]api.Inlay{one}, api.MaxInlays+1), api.ErrFull},
		{9, slices.Repeat([]api.Inlay{one}, api.MaxInlays), api.ErrSame},
		{9, make([]api.Inlay, api.MaxInlays), api.ErrArg},
		{9, append(full[:api.MaxInlays-1:api.MaxInlays-1], full[0]), api.ErrSame},
		{9, []api.Inlay{one, one}, api.ErrSame},
		{9, []api.Inlay{one, {ID: 7, At: 9, Bias: api.Right, Key: 3, Text: "b"}}, api.ErrSame},
		{9, []api.Inlay{one, {ID: 7}}, api.ErrForm},
		{9, []api.Inlay{one, {ID: 7, At: 10, Text: "a"}}, api.ErrArg},
		{9, []api.Inlay{one, {ID: 8, Text: "a"}, one, {}}, api.ErrSame},
		{9, []api.Inlay{one, {ID: 8, Text: "a"}, {}, one}, api.ErrArg},
		{0, []api.Inlay{one}, api.ErrArg},
		{api.MaxInt, []api.Inlay{{ID: 1, At: api.MaxInt + 1, Text: "a"}}, api.ErrArg},
	} {
		if s, e := inlays.New(c.n, c.l); s != nil || e != c.e {
			t.Errorf("%d: New(%d, %v): %v, %v", i, c.n, c.l, s, e)
		}
	}
}

// 13.1: all pairs of places, in their order and against it, and numbers that are no places.
func TestWithin(t *testing.T) {
	places := []int{-2, -1, 0, 1, 2, 3, 4, 5, 6, 7, 8, 9, 10, 11, math.MinInt, math.MaxInt, api.MaxInt, api.MaxInt + 1}
	for seed := range 40 {
		l := some(9, mix(seed, 30), 1000*seed)
		s := of(t, 9, l)
		for _, from := range places {
			for _, to := range places {
				want := slices.DeleteFunc(ordered(l), func(x api.Inlay) bool { return x.At < from || x.At > to })
				if got := s.Within(from, to); !slices.Equal(got, want) {
					t.Fatalf("Within(%d, %d) of %v: %v, not %v", from, to, l, got, want)
				}
			}
		}
	}
}

// 13.2: sets that are spliced again and again, and those that they were made of.
func TestSplice(t *testing.T) {
	sets, lists := []*inlays.Set{of(t, 11, nil)}, [][]api.Inlay{nil}
	for k := range 2000 {
		from := mix(k, len(sets))
		var remove []int
		var left []api.Inlay
		for i, x := range lists[from] {
			if mix(k+7*i, 4) == 0 {
				remove = append(remove, x.ID)
			} else {
				left = append(left, x)
			}
		}
		if k%2 == 0 {
			slices.Reverse(remove)
		}
		room := api.MaxInlays - len(left)
		add := some(11, mix(k+1, min(room, 9)+1), 100*k)
		for i := range add {
			add[i].ID += 1000 * k
		}
		if len(remove) > 0 && len(add) > 0 { // what has gone may come again
			add[0].ID = remove[0]
		}
		u, e := sets[from].Splice(remove, add)
		if u == nil || e != api.OK {
			t.Fatalf("Splice(%v, %v) of %v: %v, %v", remove, add, lists[from], u, e)
		}
		sets, lists = append(sets, u), append(lists, slices.Concat(left, add))
	}
	full := 0
	for i, s := range sets {
		has(t, s, 11, lists[i])
		full = max(full, len(lists[i]))
	}
	if full < 20 {
		t.Errorf("at most %d inlays were spliced together", full)
	}
}

// 13.2: what is spliced in is clean.
func TestSpliceCleans(t *testing.T) {
	u, e := of(t, 3, nil).Splice(nil, []api.Inlay{{ID: 1, At: 3, Text: "a\xff"}})
	if e != api.OK {
		t.Fatal(e)
	}
	has(t, u, 3, []api.Inlay{{ID: 1, At: 3, Text: "a\ufffd"}})
}

// 13.2, R4: what is removed comes ahead of what is added; what is added stands behind what is left.
func TestSpliceErrors(t *testing.T) {
	a, b := api.Inlay{ID: 3, At: 1, Text: "a"}, api.Inlay{ID: 5, At: 9, Bias: api.Right, Text: "b"}
	s := of(t, 9, []api.Inlay{a, b})
	full := of(t, 9, some(9, api.MaxInlays, 1))
	first := full.All()[0].ID
	other := api.Inlay{ID: math.MaxInt, At: 9, Text: "o"}
	for i, c := range []struct {
		s      *inlays.Set
		remove []int
		add    []api.Inlay
		e      api.Errno
	}{
		{s, []int{4}, nil, api.ErrNone},
		{s, []int{0}, nil, api.ErrNone},
		{s, []int{-3}, nil, api.ErrNone},
		{s, []int{math.MinInt}, nil, api.ErrNone},
		{s, []int{3, 3}, nil, api.ErrNone},
		{s, []int{3, 5, 3}, nil, api.ErrNone},
		{s, []int{3, 5, 4}, nil, api.ErrNone},
		{s, []int{7}, []api.Inlay{{ID: 7, Text: "a"}}, api.ErrNone},
		{s, []int{4}, []api.Inlay{{}}, api.ErrNone},
		{s, []int{4}, make([]api.Inlay, api.MaxInlays+1), api.ErrNone},
		{s, nil, []api.Inlay{a}, api.ErrSame},
		{s, []int{5}, []api.Inlay{a}, api.ErrSame},
		{s, []int{3}, []api.Inlay{a, a}, api.ErrSame},
		{s, nil, []api.Inlay{b, {ID: 4}}, api.ErrSame},
		{s, nil, []api.Inlay{{ID: 4}, b}, api.ErrForm},
		{s, []int{3}, []api.Inlay{a}, api.OK},
		{s, []int{3, 5}, []api.Inlay{b, a}, api.OK},
		{s, []int{}, []api.Inlay{}, api.OK},
		{s, nil, some(9, api.MaxInlays-1, 1), api.ErrFull},
		{s, nil, make([]api.Inlay, api.MaxInlays-1), api.ErrFull},
		{s, nil, make([]api.Inlay, api.MaxInlays-2), api.ErrArg},
		{full, nil, []api.Inlay{other}, api.ErrFull},
		{full, []int{first}, []api.Inlay{other}, api.OK},
		{full, []int{first}, []api.Inlay{other, {}}, api.ErrFull},
	} {
		u, e := c.s.Splice(c.remove, c.add)
		if e != c.e || (u == nil) != (e != api.OK) {
			t.Errorf("%d: Splice(%v, %v): %v, %v", i, c.remove, c.add, u, e)
		}
	}
	for x, want := range faults() {
		for _, remove := range [][]int{nil, {3}, {5, 3}} {
			if u, e := s.Splice(remove, []api.Inlay{other, x}); x.ID != 5 && (u != nil || e != want) {
				t.Errorf("Splice(%v) with %v: %v, %v, not %v", remove, x, u, e, want)
			}
		}
	}
	has(t, s, 9, []api.Inlay{a, b})
	has(t, full, 9, some(9, api.MaxInlays, 1))
}

// 13.3: there and back, either way about.
func TestSplicedInAndOut(t *testing.T) {
	for seed := range 200 {
		l := some(11, mix(seed, api.MaxInlays+1), 1000*seed)
		in := l[:mix(seed+1, len(l)+1)]
		var ids []int
		for _, x := range in {
			ids = append(ids, x.ID)
		}
		s := of(t, 11, l[len(in):])
		u, e := s.Splice(nil, in)
		if e != api.OK {
			t.Fatal(e)
		}
		has(t, u, 11, l)
		v, e := u.Splice(ids, nil)
		if e != api.OK || !slices.Equal(v.All(), s.All()) || v.Len() != s.Len() {
			t.Fatalf("Splice out of %v: %v, %v, not %v", u.All(), e, v.All(), s.All())
		}
		w, e := v.Splice(nil, in)
		if e != api.OK || !slices.Equal(w.All(), u.All()) {
			t.Fatalf("Splice in again: %v, %v, not %v", e, w.All(), u.All())
		}
	}
}

// patchOf is a normal patch of a text of n runes.
func patchOf(n, seed int) []patch.Change {
	var ends []int
	for i := range 2 * mix(seed, 4) {
		ends = append(ends, mix(seed+i+1, n+1))
	}
	slices.Sort(ends)
	var l []api.Edit
	for i := 0; i < len(ends); i += 2 {
		l = append(l, api.Edit{From: ends[i], To: ends[i+1], Text: strings.Repeat("x", mix(seed+i+20, 4))})
	}
	return patch.Of(l)
}

// 13.2: each inlay goes where its place goes, and is as it was besides; the set that was stays.
func TestShift(t *testing.T) {
	for seed := range 3000 {
		n := mix(seed, 14)
		p := patchOf(n, 100*seed)
		l := everywhere(n)
		var want []api.Inlay
		for _, x := range l {
			at, e := patch.Map(p, x.At, x.Bias)
			if e != api.OK {
				t.Fatal(e)
			}
			x.At = at
			want = append(want, x)
		}
		s := of(t, n, l)
		u, e := s.Shift(p)
		if u == nil || e != api.OK {
			t.Fatalf("%d: Shift(%v): %v, %v", n, p, u, e)
		}
		has(t, u, n+patch.Delta(p), want)
		has(t, s, n, l)
	}
}

// 13.2: two inlays change places, where one that is ahead goes to the right, and one that is behind goes to the left; others meet, and stand by their keys.
func TestShiftTurnsOrder(t *testing.T) {
	s := of(t, 9, []api.Inlay{{ID: 1, At: 3, Bias: api.Right, Key: 2, Text: "a"}, {ID: 2, At: 5, Text: "b"}, {ID: 3, At: 5, Bias: api.Right, Key: 1, Text: "c"}, {ID: 4, At: 6, Bias: api.Right, Text: "d"}})
	u, e := s.Shift([]patch.Change{change(2, 6, 2, 4)})
	want := []api.Inlay{{ID: 2, At: 2, Text: "b"}, {ID: 4, At: 4, Bias: api.Right, Text: "d"}, {ID: 3, At: 4, Bias: api.Right, Key: 1, Text: "c"}, {ID: 1, At: 4, Bias: api.Right, Key: 2, Text: "a"}}
	if all := u.All(); e != api.OK || !slices.Equal(all, want) {
		t.Errorf("Shift: %v, %v", e, all)
	}
}

// 13.2: places behind the text, and texts that are too long, whether there is an inlay or none.
func TestShiftEdges(t *testing.T) {
	const end = api.MaxInt
	for i, c := range []struct {
		n int
		p []patch.Change
		e api.Errno
	}{
		{0, nil, api.OK},
		{0, []patch.Change{change(0, 0, 0, 1)}, api.OK},
		{0, []patch.Change{change(0, 1, 0, 0)}, api.ErrArg},
		{0, []patch.Change{change(1, 1, 1, 2)}, api.ErrArg},
		{4, []patch.Change{change(4, 4, 4, 5)}, api.OK},
		{4, []patch.Change{change(5, 5, 5, 6)}, api.ErrArg},
		{4, []patch.Change{change(3, 4, 3, 3)}, api.OK},
		{4, []patch.Change{change(3, 5, 3, 3)}, api.ErrArg},
		{4, []patch.Change{change(0, 4, 0, 0)}, api.OK},
		{4, []patch.Change{change(0, 2, 0, 0), change(3, 4, 1, 9)}, api.OK},
		{4, []patch.Change{change(0, 2, 0, 0), change(3, 5, 1, 9)}, api.ErrArg},
		{4, []patch.Change{change(0, 2, 0, 0), change(5, 5, 3, 9)}, api.ErrArg},
		{4, []patch.Change{change(0, 0, 0, end-4)}, api.OK},
		{4, []patch.Change{change(0, 0, 0, end-3)}, api.ErrArg},
		{4, []patch.Change{change(0, 4, 0, end)}, api.OK},
		{4, []patch.Change{change(0, 0, 0, end)}, api.ErrArg},
		{4, []patch.Change{change(0, 1, 0, end-10), change(2, 2, end-9, end-2)}, api.OK},
		{4, []patch.Change{change(0, 1, 0, end-10), change(2, 2, end-9, end-1)}, api.ErrArg},
		{end, nil, api.OK},
		{end, []patch.Change{change(0, end, 0, end)}, api.OK},
		{end, []patch.Change{change(0, end, 0, 0)}, api.OK},
		{end, []patch.Change{change(0, 0, 0, 1)}, api.ErrArg},
		{end, []patch.Change{change(0, 1, 0, 0), change(end-1, end-1, end-2, end-1)}, api.OK},
		{end, []patch.Change{change(0, 1, 0, 0), change(end-1, end-1, end-2, end)}, api.ErrArg},
		{end - 1, []patch.Change{change(0, 0, 0, 1)}, api.OK},
		{end - 1, []patch.Change{change(0, 0, 0, 2)}, api.ErrArg},
		{end - 1, []patch.Change{change(end-1, end, end-1, end-1)}, api.ErrArg},
	} {
		for _, l := range [][]api.Inlay{nil, {{ID: 1, At: c.n, Text: "a"}, {ID: 2, At: c.n, Bias: api.Right, Text: "b"}, {ID: 3, Text: "c"}}} {
			s := of(t, c.n, l)
			u, e := s.Shift(c.p)
			if e != c.e || (u == nil) != (e != api.OK) {
				t.Errorf("%d: Shift(%v) of %d: %v, %v", i, c.p, c.n, u, e)
			}
			if e == api.OK && u.Len() != c.n+patch.Delta(c.p) {
				t.Errorf("%d: Shift(%v) of %d: Len %d", i, c.p, c.n, u.Len())
			}
			has(t, s, c.n, l)
		}
	}
}

// 13.2: what is not normal is told ahead of what is not in the text.
func TestShiftNotNormal(t *testing.T) {
	for _, p := range [][]patch.Change{
		{{}},
		{change(1, 2, 2, 3)},
		{change(1, 1, 1, 1)},
		{change(2, 1, 2, 2)},
		{change(-1, 1, -1, 1)},
		{change(0, 1, 0, 1), change(1, 2, 1, 2)},
		{change(3, 4, 3, 4), change(0, 1, 0, 1)},
		{change(20, 20, 20, 20)},
		{change(0, 20, 1, 2)},
		{change(20, 21, 20, 21), change(21, 22, 21, 22)},
		{change(0, 0, 0, api.MaxInt+1)},
		{change(math.MinInt, math.MaxInt, math.MinInt, math.MaxInt)},
		{change(0, math.MaxInt, 0, math.MaxInt)},
	} {
		for _, s := range []*inlays.Set{nil, of(t, 9, nil), of(t, 9, everywhere(9))} {
			if u, e := s.Shift(p); u != nil || e != api.ErrForm {
				t.Errorf("Shift(%v): %v, %v", p, u, e)
			}
		}
	}
}

// 13.4: those of one place and bias are at one place, in the order in which they were, and so it stays.
func TestStayTogether(t *testing.T) {
	alike := func(s *inlays.Set, at, bias int) []api.Inlay {
		return slices.DeleteFunc(s.Within(at, at), func(x api.Inlay) bool { return x.Bias != bias })
	}
	for seed := range 500 {
		n := mix(seed, 14)
		s := of(t, n, everywhere(n))
		u, e := s.Shift(patchOf(n, 100*seed))
		if e != api.OK {
			t.Fatal(e)
		}
		for at := range n + 1 {
			for _, bias := range []int{api.Left, api.Right} {
				was := alike(s, at, bias)
				is := slices.DeleteFunc(u.All(), func(x api.Inlay) bool {
					return !slices.ContainsFunc(was, func(y api.Inlay) bool { return x.ID == y.ID })
				})
				for i := range was {
					if len(is) != len(was) || is[i].ID != was[i].ID || is[i].At != is[0].At {
						t.Fatalf("%v: %v", was, is)
					}
				}
			}
		}
	}
}

// A nil set, and one that nobody made, have none, for a text of 0 runes.
func TestNil(t *testing.T) {
	for _, s := range []*inlays.Set{nil, {}} {
		has(t, s, 0, nil)
		if l := s.Within(math.MinInt, math.MaxInt); len(l) != 0 {
			t.Errorf("Within: %v", l)
		}
		if u, e := s.Splice([]int{1}, nil); u != nil || e != api.ErrNone {
			t.Errorf("Splice: %v, %v", u, e)
		}
		if u, e := s.Splice(nil, []api.Inlay{{ID: 1, At: 1, Text: "a"}}); u != nil || e != api.ErrArg {
			t.Errorf("Splice: %v, %v", u, e)
		}
		one := []api.Inlay{{ID: 1, Text: "a"}}
		u, e := s.Splice(nil, one)
		if e != api.OK {
			t.Fatal(e)
		}
		has(t, u, 0, one)
		for _, p := range [][]patch.Change{{change(0, 1, 0, 0)}, {change(0, 1, 0, 1)}, {change(1, 1, 1, 2)}} {
			if u, e := s.Shift(p); u != nil || e != api.ErrArg {
				t.Errorf("Shift(%v): %v, %v", p, u, e)
			}
		}
		for n, p := range [][]patch.Change{nil, {change(0, 0, 0, 1)}, {change(0, 0, 0, 2)}} {
			u, e := s.Shift(p)
			if u == nil || e != api.OK {
				t.Fatalf("Shift(%v): %v, %v", p, u, e)
			}
			has(t, u, n, nil)
		}
	}
}

// R3: what is handed in stays, spare room too, and is not kept; answers share nothing with the set, nor with each other.
func TestWhatIsHandedInStays(t *testing.T) {
	l := append(everywhere(5), api.Inlay{ID: 900, At: 5, Text: "y"}, api.Inlay{ID: 901, At: 1, Text: "\xff"}, api.Inlay{ID: 902, Text: "z"})
	slices.Reverse(l)
	room, ids, changes := slices.Clone(l), []int{900, 38, 0}, []patch.Change{change(1, 1, 1, 3), change(4, 5, 6, 6), change(9, 9, 9, 0)}
	wasIDs, wasChanges := slices.Clone(ids), slices.Clone(changes)
	s := of(t, 5, room[2:26])
	u, e := s.Splice(ids[:0], room[:2])
	if e != api.OK {
		t.Fatal(e)
	}
	v, e := u.Shift(changes[:2])
	if e != api.OK || !slices.Equal(room, l) || !slices.Equal(changes, wasChanges) {
		t.Fatalf("%v, or an argument has changed: %v, %v", e, room, changes)
	}
	if _, e := u.Splice(ids[1:2], nil); e != api.OK || !slices.Equal(ids, wasIDs) {
		t.Fatalf("%v, or an argument has changed: %v", e, ids)
	}
	clear(room)
	clear(changes)
	for _, x := range []*inlays.Set{s, u, v} {
		all := x.All()
		for _, answer := range []func() []api.Inlay{x.All, func() []api.Inlay { return x.Within(0, 9) }} {
			one, two := answer(), answer()
			clear(one[:cap(one)])
			if !slices.Equal(two, all) || !slices.Equal(answer(), all) {
				t.Errorf("%v, then %v, not %v", two, answer(), all)
			}
		}
	}
	l[1].Text = "\ufffd"
	has(t, s, 5, l[2:26])
	has(t, u, 5, l[:26])
}
