package patch_test

import (
	"math"
	"slices"
	"strings"
	"testing"

	"bodkin/api"
	"bodkin/patch"
)

// mix is a number from 0 to below n that is hard to foresee and ever the same.
func mix(seed, n int) int {
	x := uint64(seed)*0x9e3779b97f4a7c15 + 0x632be59bd9b4e019
	x ^= x >> 29
	x *= 0xbf58476d1ce4e5b9
	x ^= x >> 32
	return int(x % uint64(n))
}

// change is what stood from a to b, and stands from c to d now.
func change(a, b, c, d int) patch.Change {
	return patch.Change{Old: api.Span{From: a, To: b}, New: api.Span{From: c, To: d}}
}

// A text is told by the names of its runes here, each of them another one, so that what is kept is seen.

// names are n of them, from first on.
func names(first, n int) []int {
	var l []int
	for i := range n {
		l = append(l, first+i)
	}
	return l
}

// put is a text behind a patch; what comes has names from first on.
func put(text []int, l []patch.Change, first int) []int {
	for _, c := range slices.Backward(l) {
		come := names(first+1000*c.New.From, c.New.To-c.New.From)
		text = slices.Concat(text[:c.Old.From], come, text[c.Old.To:])
	}
	return text
}

// unlike is the normal patch that makes one text another one, in which what is in both stands in the same order.
func unlike(was, is []int) []patch.Change {
	var l []patch.Change
	for i, j := 0, 0; i < len(was) || j < len(is); {
		if i < len(was) && j < len(is) && was[i] == is[j] {
			i, j = i+1, j+1
			continue
		}
		c := change(i, i, j, j)
		for i < len(was) && !slices.Contains(is, was[i]) {
			i++
		}
		for j < len(is) && !slices.Contains(was, is[j]) {
			j++
		}
		c.Old.To, c.New.To = i, j
		l = append(l, c)
	}
	return l
}

// every are all normal patches of a text of n runes that put at most more runes between what they keep.
func every(n, more int) [][]patch.Change {
	var all [][]patch.Change
	was := names(0, n)
	var grow func(is []int, next int)
	grow = func(is []int, next int) { // all that is ahead of the rune next is done with
		for k := range more + 1 {
			come := slices.Concat(is, names(100+10*len(is), k))
			all = append(all, unlike(was, come))
			for i := next; i < n; i++ {
				grow(slices.Concat(come, []int{i}), i+1)
			}
		}
	}
	grow(nil, 0)
	return all
}

// one is a normal patch of a text of n runes.
func one(n, seed int) []patch.Change {
	var is []int
	for i := range n + 1 {
		if mix(seed+3*i, 4) == 0 {
			is = append(is, names(1000+10*i, 1+mix(seed+3*i+1, 3))...)
		}
		if i < n && mix(seed+3*i+2, 5) < 3 {
			is = append(is, i)
		}
	}
	return unlike(names(0, n), is)
}

// tail is how many runes of a text are behind all changes at least, where one is laid out.
const tail = 3

// long is how long a text must be for a patch, with a tail.
func long(l []patch.Change) int {
	if len(l) == 0 {
		return tail
	}
	return l[len(l)-1].Old.To + tail
}

// every tells each normal patch once; of a text of n runes and more of them there is one for each choice of what is kept and of what comes between.
func TestEveryTellsEachOnce(t *testing.T) {
	for _, c := range [][3]int{{0, 2, 3}, {1, 1, 6}, {2, 1, 18}, {3, 2, 192}} {
		seen := map[[4]patch.Change]bool{}
		for _, l := range every(c[0], c[1]) {
			var key [4]patch.Change
			copy(key[:], l)
			if seen[key] || !patch.Normal(l) {
				t.Errorf("%v: %v is met twice, or is not normal", c, l)
			}
			seen[key] = true
		}
		if len(seen) != c[2] {
			t.Errorf("%v: %d", c, len(seen))
		}
	}
}

// The document's example.
func TestExample(t *testing.T) {
	l := []patch.Change{change(2, 4, 2, 3)}
	for _, c := range [][3]int{{3, api.Left, 2}, {3, api.Right, 3}, {5, api.Left, 4}, {5, api.Right, 4}} {
		if n, e := patch.Map(l, c[0], c[1]); n != c[2] || e != api.OK {
			t.Errorf("Map%v: %d, %v", c, n, e)
		}
	}
}

// 10.1: of all patches of one and of two changes with numbers from -1 to 3 those are normal that tell one text from another one.
func TestNormalOfAllSmallPatches(t *testing.T) {
	normal := map[[2]patch.Change]bool{}
	for _, l := range every(3, 3) {
		var key [2]patch.Change
		if len(l) <= 2 {
			copy(key[:], l)
			normal[key] = true
		}
	}
	var changes []patch.Change
	for i := range 625 {
		changes = append(changes, change(i%5-1, i/5%5-1, i/25%5-1, i/125-1))
	}
	seen := 0
	for _, a := range changes {
		want := normal[[2]patch.Change{a}] && a != change(0, 0, 0, 0)
		if patch.Normal([]patch.Change{a}) != want {
			t.Fatalf("Normal(%v): %v", a, !want)
		}
		for _, b := range changes {
			want := normal[[2]patch.Change{a, b}] && b != change(0, 0, 0, 0)
			if want {
				seen++
			}
			if patch.Normal([]patch.Change{a, b}) != want {
				t.Fatalf("Normal(%v, %v): %v", a, b, !want)
			}
		}
	}
	if seen == 0 {
		t.Error("none of two changes is normal")
	}
}

// 10.1: longer patches, and the ends of the numbers.
func TestNormal(t *testing.T) {
	const end = api.MaxInt
	for i, c := range []struct {
		want bool
		l    []patch.Change
	}{
		{true, nil},
		{true, []patch.Change{}},
		{true, []patch.Change{change(0, 0, 0, 1)}},
		{true, []patch.Change{change(0, end, 0, end)}},
		{true, []patch.Change{change(0, 0, 0, end)}},
		{true, []patch.Change{change(end-1, end, end-1, end-1)}},
		{true, []patch.Change{change(0, 1, 0, 0), change(2, 2, 1, 4), change(7, 9, 9, 10)}},
		{false, []patch.Change{change(0, 1, 0, 0), change(2, 2, 1, 4), change(6, 9, 9, 10)}},
		{false, []patch.Change{change(0, 1, 0, 0), change(2, 2, 1, 4), change(7, 9, 8, 10)}},
		{false, []patch.Change{change(0, 1, 0, 0), change(2, 2, 1, 1), change(7, 9, 6, 10)}},
		{false, []patch.Change{change(0, 1, 0, 0), change(2, 2, 1, 4), change(2, 3, 4, 5)}},
		{false, []patch.Change{change(0, 1, 0, 0), change(2, 2, 1, 4), change(1, 1, 3, 4)}},
		{false, []patch.Change{change(end, end, end, end+1)}},
		{false, []patch.Change{change(end, end+1, end, end)}},
		{false, []patch.Change{change(end+1, end+1, end+1, end+2)}},
		{false, []patch.Change{change(0, math.MaxInt, 0, 0)}},
		{false, []patch.Change{change(0, 0, 0, math.MaxInt)}},
		{false, []patch.Change{change(math.MinInt, 0, math.MinInt, 0)}},
		{false, []patch.Change{change(0, math.MinInt, 0, 0)}},
		{false, []patch.Change{change(0, 1, 0, 1), change(math.MinInt, math.MaxInt, math.MinInt, math.MaxInt)}},
	} {
		if patch.Normal(c.l) != c.want {
			t.Errorf("%d: Normal(%v): %v", i, c.l, !c.want)
		}
	}
}

// 10.1: Of tells what becomes of a text.
func TestOf(t *testing.T) {
	for seed := range 5000 {
		n := mix(seed, 15)
		var ends []int
		for i := range 2 * mix(seed+1, 6) {
			ends = append(ends, mix(7*seed+i, n+1))
		}
		slices.Sort(ends)
		var l []api.Edit
		is := names(0, n)
		for i := 0; i < len(ends); i += 2 {
			text := []string{"", "", "x", "\u4e00\n", "\xe4\xb8"}[mix(seed+i, 5)]
			l = append(l, api.Edit{From: ends[i], To: ends[i+1], Text: text})
		}
		for i, x := range slices.Backward(l) {
			is = slices.Concat(is[:x.From], names(100*(i+1), len([]rune(x.Text))), is[x.To:])
		}
		p := patch.Of(l)
		if want := unlike(names(0, n), is); !slices.Equal(p, want) {
			t.Fatalf("Of(%v): %v, not %v", l, p, want)
		}
		if !patch.Normal(p) || patch.Delta(p) != len(is)-n {
			t.Fatalf("Of(%v): %v is not normal, or Delta is %d", l, p, patch.Delta(p))
		}
	}
}

// 10.1: what edits change is told by their places, whatever their texts are.
func TestOfEdges(t *testing.T) {
	for i, c := range []struct {
		l    []api.Edit
		want []patch.Change
	}{
		{nil, nil},
		{[]api.Edit{{From: 2, To: 2}}, nil},
		{[]api.Edit{{From: 2, To: 2}, {From: 2, To: 2}, {From: 5, To: 5}}, nil},
		{[]api.Edit{{From: 0, To: 1, Text: "a"}}, []patch.Change{change(0, 1, 0, 1)}},
		{[]api.Edit{{From: 1, To: 2, Text: "a"}, {From: 2, To: 3, Text: "b"}}, []patch.Change{change(1, 3, 1, 3)}},
		{[]api.Edit{{From: 1, To: 2, Text: "a"}, {From: 3, To: 4, Text: "b"}}, []patch.Change{change(1, 2, 1, 2), change(3, 4, 3, 4)}},
		{[]api.Edit{{From: 1, To: 2}, {From: 2, To: 2}, {From: 2, To: 2, Text: "\xe4\xb8"}}, []patch.Change{change(1, 2, 1, 3)}},
		{[]api.Edit{{From: 1, To: 1, Text: "ab"}, {From: 2, To: 2}, {From: 3, To: 4}}, []patch.Change{change(1, 1, 1, 3), change(3, 4, 5, 5)}},
		{[]api.Edit{{From: 0, To: 0, Text: "\u4e00\U0001f600"}, {From: 0, To: 0, Text: "\xe4"}, {From: 0, To: 0, Text: "\xb8"}}, []patch.Change{change(0, 0, 0, 4)}},
		{[]api.Edit{{From: 0, To: api.MaxInt}}, []patch.Change{change(0, api.MaxInt, 0, 0)}},
		{[]api.Edit{{From: api.MaxInt - 1, To: api.MaxInt - 1, Text: "a"}}, []patch.Change{change(api.MaxInt-1, api.MaxInt-1, api.MaxInt-1, api.MaxInt)}},
	} {
		if p := patch.Of(c.l); !slices.Equal(p, c.want) {
			t.Errorf("%d: Of(%v): %v, not %v", i, c.l, p, c.want)
		}
	}
	var many []api.Edit
	var want []patch.Change
	for i := range 2 * api.MaxEdits {
		many = append(many, api.Edit{From: 2 * i, To: 2*i + 1, Text: "ab"})
		want = append(want, change(2*i, 2*i+1, 3*i, 3*i+2))
	}
	if p := patch.Of(many); !slices.Equal(p, want) {
		t.Errorf("Of many: %v", p)
	}
}

// What is a batch of no text has no patch; so has one whose places go too far.
func TestOfWhatIsNotRight(t *testing.T) {
	for i, l := range [][]api.Edit{
		{{From: -1, To: 1, Text: "a"}},
		{{From: 2, To: 1, Text: "a"}},
		{{From: 5, To: 6, Text: "a"}, {From: 2, To: 3, Text: "b"}},
		{{From: 1, To: 5}, {From: 4, To: 6}},
		{{From: 1, To: 5}, {From: 4, To: 4}},
		{{From: math.MinInt, To: math.MaxInt}},
		{{From: math.MaxInt, To: math.MinInt}},
		{{From: math.MaxInt, To: math.MaxInt, Text: "a"}},
		{{From: 0, To: 0, Text: "a"}, {From: math.MaxInt - 1, To: math.MaxInt}},
		{{From: api.MaxInt, To: api.MaxInt, Text: "a"}},
		{{From: api.MaxInt, To: api.MaxInt + 1, Text: ""}},
	} {
		if p := patch.Of(l); len(p) != 0 {
			t.Errorf("%d: Of(%v): %v", i, l, p)
		}
	}
}

// goes is where a place goes: to the left behind the last rune ahead of it that is kept, to the right ahead of the first one behind it.
func goes(was, is []int, at, bias int) int {
	if bias == api.Right {
		for slices.Index(is, was[at]) < 0 {
			at++
		}
		return slices.Index(is, was[at])
	}
	for at > 0 && slices.Index(is, was[at-1]) < 0 {
		at--
	}
	if at == 0 {
		return 0
	}
	return slices.Index(is, was[at-1]) + 1
}

// 10.2: each place of each small patch, and of longer ones.
func TestMap(t *testing.T) {
	patches := every(4, 2)
	for seed := range 500 {
		patches = append(patches, one(30, 1000*seed))
	}
	for _, l := range patches {
		n := long(l)
		was := names(0, n)
		is := put(was, l, 100000)
		for at := range n {
			for _, bias := range []int{api.Left, api.Right} {
				want := goes(was, is, at, bias)
				if to, e := patch.Map(l, at, bias); to != want || e != api.OK {
					t.Fatalf("Map(%v, %d, %d): %d, %v, not %d", l, at, bias, to, e, want)
				}
			}
		}
		far := api.MaxInt + len(is) - n
		if to, e := patch.Map(l, api.MaxInt, api.Left); to != far || e != api.OK {
			t.Fatalf("Map(%v) of the last place: %d, %v, not %d", l, to, e, far)
		}
	}
}

// notNormal are patches that are not normal.
func notNormal() [][]patch.Change {
	return [][]patch.Change{
		{change(0, 0, 0, 0)},
		{change(5, 5, 5, 5)},
		{change(1, 2, 0, 1)},
		{change(2, 1, 2, 3)},
		{change(2, 3, 2, 1)},
		{change(-1, 1, -1, 1)},
		{change(0, 1, 0, 2), change(1, 2, 2, 3)},
		{change(0, 1, 0, 2), change(3, 4, 3, 4)},
		{change(3, 4, 3, 4), change(0, 1, 0, 1)},
		{change(0, api.MaxInt+1, 0, 0)},
		{change(0, 0, 0, math.MaxInt)},
		{change(math.MinInt, math.MaxInt, math.MinInt, math.MaxInt)},
	}
}

// 10.2, R1, R4: what is wrong, the patch ahead of the place.
func TestMapErrors(t *testing.T) {
	right := []patch.Change{change(2, 4, 2, 3)}
	for i, c := range []struct {
		l        []patch.Change
		at, bias int
		want     api.Errno
	}{
		{right, -1, api.Left, api.ErrArg},
		{right, math.MinInt, api.Right, api.ErrArg},
		{right, api.MaxInt + 1, api.Left, api.ErrArg},
		{right, math.MaxInt, api.Right, api.ErrArg},
		{right, 3, 2, api.ErrArg},
		{right, 3, -1, api.ErrArg},
		{right, 0, math.MaxInt, api.ErrArg},
		{nil, -1, api.Left, api.ErrArg},
		{nil, 0, 2, api.ErrArg},
	} {
		if n, e := patch.Map(c.l, c.at, c.bias); n != 0 || e != c.want {
			t.Errorf("%d: Map(%v, %d, %d): %d, %v", i, c.l, c.at, c.bias, n, e)
		}
	}
	for _, l := range notNormal() {
		for _, at := range []int{-1, 0, 3, math.MaxInt} {
			if n, e := patch.Map(l, at, at); n != 0 || e != api.ErrForm {
				t.Errorf("Map(%v, %d, %d): %d, %v", l, at, at, n, e)
			}
		}
	}
	for _, at := range []int{0, 7, api.MaxInt} {
		if n, e := patch.Map(nil, at, api.Left); n != at || e != api.OK {
			t.Errorf("Map(nil, %d): %d, %v", at, n, e)
		}
	}
}

// 10.2: Delta, and Invert; these ask for no normal patch.
func TestDeltaAndInvert(t *testing.T) {
	for i, c := range []struct {
		l     []patch.Change
		delta int
		about []patch.Change
	}{
		{nil, 0, nil},
		{[]patch.Change{change(1, 1, 1, 4)}, 3, []patch.Change{change(1, 4, 1, 1)}},
		{[]patch.Change{change(1, 3, 1, 3)}, 0, []patch.Change{change(1, 3, 1, 3)}},
		{[]patch.Change{change(0, 2, 0, 1), change(4, 9, 3, 4)}, -5, []patch.Change{change(0, 1, 0, 2), change(3, 4, 4, 9)}},
		{[]patch.Change{change(0, 2, 5, 6), change(0, 0, 0, 0)}, -1, []patch.Change{change(5, 6, 0, 2), change(0, 0, 0, 0)}},
	} {
		if n := patch.Delta(c.l); n != c.delta {
			t.Errorf("%d: Delta(%v): %d", i, c.l, n)
		}
		if m := patch.Invert(c.l); !slices.Equal(m, c.about) {
			t.Errorf("%d: Invert(%v): %v", i, c.l, m)
		}
	}
	for _, l := range notNormal() {
		patch.Delta(l)
		if m := patch.Invert(patch.Invert(l)); !slices.Equal(m, l) {
			t.Errorf("Invert(%v) twice: %v", l, m)
		}
	}
}

// composed is a patch and another one behind it, told by what becomes of a text.
func composed(a, b []patch.Change) []patch.Change {
	was := names(0, long(a)+long(b))
	return unlike(was, put(put(was, a, 100000), b, 200000))
}

// holdComposed tells what is wrong with a patch and another one behind it.
func holdComposed(t *testing.T, a, b []patch.Change) {
	t.Helper()
	l, e := patch.Compose(a, b)
	if want := composed(a, b); e != api.OK || !slices.Equal(l, want) {
		t.Fatalf("Compose(%v, %v): %v, %v, not %v", a, b, e, l, want)
	}
	if !patch.Normal(l) || patch.Delta(l) != patch.Delta(a)+patch.Delta(b) {
		t.Fatalf("Compose(%v, %v): %v is not normal, or Delta is %d", a, b, l, patch.Delta(l))
	}
	for at := range long(a) + long(b) {
		for _, bias := range []int{api.Left, api.Right} {
			mid, _ := patch.Map(a, at, bias)
			if !stays(a, at, bias) || !stays(b, mid, bias) {
				continue
			}
			want, _ := patch.Map(b, mid, bias)
			if n, e := patch.Map(l, at, bias); n != want || e != api.OK {
				t.Fatalf("Map(%v, %d, %d): %d, %v; by %v and %v: %d", l, at, bias, n, e, a, b, want)
			}
		}
	}
}

// stays tells whether what stands behind a place is kept; to the left, what stands ahead of it, if there is any: as all between two kept pieces is one change, a place at its end goes to the left further than by both.
func stays(l []patch.Change, at, bias int) bool {
	if bias == api.Left {
		at--
	}
	return !slices.ContainsFunc(l, func(c patch.Change) bool { return c.Old.From <= at && at < c.Old.To })
}

// 10.3, 10.4: all small patches, one behind the other.
func TestComposeSmall(t *testing.T) {
	front, back := every(3, 2), every(4, 1)
	for _, a := range front {
		for _, b := range back {
			holdComposed(t, a, b)
		}
	}
}

// 10.3, 10.4: longer ones, the one's behind the other's, and mixed.
func TestComposeLong(t *testing.T) {
	for seed := range 1000 {
		a, b := one(mix(seed, 40), 500*seed), one(mix(seed+1, 40), 500*seed+250)
		holdComposed(t, a, b)
	}
	for _, l := range every(4, 2) {
		for _, none := range [][]patch.Change{nil, {}} {
			holdComposed(t, l, none)
			holdComposed(t, none, l)
		}
	}
}

// 10.3: what stands between, and is not kept by both, is one change or none.
func TestComposeEdges(t *testing.T) {
	type list = []patch.Change
	for i, c := range []struct{ a, b, want list }{
		{nil, nil, nil},
		{list{change(1, 1, 1, 4)}, list{change(1, 4, 1, 1)}, nil},
		{list{change(1, 4, 1, 1)}, list{change(1, 1, 1, 4)}, list{change(1, 4, 1, 4)}},
		{list{change(1, 1, 1, 4)}, list{change(2, 3, 2, 2)}, list{change(1, 1, 1, 3)}},
		{list{change(1, 1, 1, 4)}, list{change(0, 1, 0, 0)}, list{change(0, 1, 0, 3)}},
		{list{change(1, 1, 1, 4)}, list{change(4, 5, 4, 4)}, list{change(1, 2, 1, 4)}},
		{list{change(2, 3, 2, 2)}, list{change(2, 3, 2, 2)}, list{change(2, 4, 2, 2)}},
		{list{change(2, 3, 2, 2)}, list{change(3, 4, 3, 3)}, list{change(2, 3, 2, 2), change(4, 5, 3, 3)}},
		{list{change(2, 2, 2, 3), change(4, 4, 5, 6)}, list{change(2, 6, 2, 2)}, list{change(2, 4, 2, 2)}},
		{list{change(5, 6, 5, 5)}, list{change(2, 2, 2, 3), change(7, 8, 8, 8)}, list{change(2, 2, 2, 3), change(5, 6, 6, 6), change(8, 9, 8, 8)}},
	} {
		if l, e := patch.Compose(c.a, c.b); e != api.OK || !slices.Equal(l, c.want) {
			t.Errorf("%d: Compose(%v, %v): %v, %v, not %v", i, c.a, c.b, e, l, c.want)
		}
	}
}

// 10.3: numbers up to api.MaxInt, and above it.
func TestComposeFar(t *testing.T) {
	const end = api.MaxInt
	type list = []patch.Change
	for i, c := range []struct {
		a, b, want list
		e          api.Errno
	}{
		{list{change(0, 1, 0, 0)}, list{change(end-2, end-1, end-2, end-2)}, list{change(0, 1, 0, 0), change(end-1, end, end-2, end-2)}, api.OK},
		{list{change(0, 1, 0, 0)}, list{change(end-1, end, end-1, end-1)}, nil, api.ErrFull},
		{list{change(end-2, end-1, end-2, end-1)}, list{change(0, 0, 0, 1)}, list{change(0, 0, 0, 1), change(end-2, end-1, end-1, end)}, api.OK},
		{list{change(end-1, end, end-1, end)}, list{change(0, 0, 0, 1)}, nil, api.ErrFull},
		{list{change(0, 0, 0, 1)}, list{change(end-1, end, end-1, end)}, list{change(0, 0, 0, 1), change(end-2, end-1, end-1, end)}, api.OK},
		{list{change(0, 0, 0, end)}, list{change(0, end, 0, 0)}, nil, api.OK},
		{list{change(0, end, 0, 0)}, list{change(0, 0, 0, end)}, list{change(0, end, 0, end)}, api.OK},
		{list{change(0, 0, 0, end)}, list{change(0, 0, 0, end)}, nil, api.ErrFull},
		{list{change(0, 0, 0, end)}, list{change(1, 1, 1, 2)}, nil, api.ErrFull},
		{list{change(0, 0, 0, end)}, list{change(1, 2, 1, 2)}, list{change(0, 0, 0, end)}, api.OK},
		{list{change(0, end, 0, 0)}, list{change(0, end, 0, 0)}, nil, api.ErrFull},
		{list{change(0, end, 0, 0)}, list{change(0, 1, 0, 0)}, nil, api.ErrFull},
		{list{change(0, end, 0, 1)}, list{change(0, 1, 0, end)}, list{change(0, end, 0, end)}, api.OK},
		{list{change(0, end, 0, end)}, list{change(0, end, 0, end)}, list{change(0, end, 0, end)}, api.OK},
		{nil, list{change(0, end, 0, end)}, list{change(0, end, 0, end)}, api.OK},
	} {
		if l, e := patch.Compose(c.a, c.b); e != c.e || !slices.Equal(l, c.want) {
			t.Errorf("%d: Compose(%v, %v): %v, %v", i, c.a, c.b, e, l)
		}
	}
}

// 10.3, R4: what is not normal, wherever it stands; ahead of ErrFull.
func TestComposeErrors(t *testing.T) {
	full := []patch.Change{change(0, 0, 0, api.MaxInt)}
	for _, wrong := range notNormal() {
		for _, right := range [][]patch.Change{nil, full, {change(2, 4, 2, 3)}, wrong} {
			if l, e := patch.Compose(wrong, right); len(l) != 0 || e != api.ErrForm {
				t.Errorf("Compose(%v, %v): %v, %v", wrong, right, l, e)
			}
			if l, e := patch.Compose(right, wrong); len(l) != 0 || e != api.ErrForm {
				t.Errorf("Compose(%v, %v): %v, %v", right, wrong, l, e)
			}
		}
	}
}

// 10.5: turned about twice; and a patch with itself, turned about, behind it.
func TestTurnedAbout(t *testing.T) {
	patches := every(4, 2)
	for seed := range 300 {
		patches = append(patches, one(30, 1000*seed+7))
	}
	for _, l := range patches {
		about := patch.Invert(l)
		if !patch.Normal(about) || !slices.Equal(patch.Invert(about), l) {
			t.Fatalf("Invert(%v): %v", l, about)
		}
		var want []patch.Change // what was taken away comes again, as something else
		for _, c := range l {
			if c.Old.From < c.Old.To {
				want = append(want, patch.Change{Old: c.Old, New: c.Old})
			}
		}
		if same, e := patch.Compose(l, about); e != api.OK || !slices.Equal(same, want) {
			t.Fatalf("Compose(%v, %v): %v, %v, not %v", l, about, e, same, want)
		}
		for at := range long(l) {
			for _, bias := range []int{api.Left, api.Right} {
				if !stays(l, at, bias) {
					continue
				}
				to, _ := patch.Map(l, at, bias)
				if n, _ := patch.Map(about, to, bias); n != at {
					t.Fatalf("%d goes by %v to %d, and back to %d, by %d", at, l, to, n, bias)
				}
			}
		}
	}
}

// 10.6
func TestComposingIsAssociative(t *testing.T) {
	for seed := range 3000 {
		a, b, c := one(mix(seed, 12), 300*seed), one(mix(seed+1, 12), 300*seed+100), one(mix(seed+2, 12), 300*seed+200)
		ab, _ := patch.Compose(a, b)
		bc, _ := patch.Compose(b, c)
		left, e := patch.Compose(ab, c)
		right, f := patch.Compose(a, bc)
		if e != api.OK || f != api.OK || !slices.Equal(left, right) {
			t.Fatalf("%v, %v, %v: %v, %v", a, b, c, left, right)
		}
	}
}

// A patch of very many changes is composed in a time that is not their number's square.
func TestComposeMany(t *testing.T) {
	var a []patch.Change
	for i := range 200000 {
		a = append(a, change(2*i, 2*i+1, 2*i, 2*i+1))
	}
	if l, e := patch.Compose(a, a); e != api.OK || !slices.Equal(l, a) {
		t.Errorf("Compose: %v, %d changes", e, len(l))
	}
	long := api.Edit{From: 1, To: 1, Text: strings.Repeat("\u4e00", 100000)}
	if p := patch.Of([]api.Edit{long}); !slices.Equal(p, []patch.Change{change(1, 1, 1, 100001)}) {
		t.Errorf("Of: %v", p)
	}
}

// R3: what is handed in stays, spare room too, and is not kept; two answers share nothing.
func TestWhatIsHandedInStays(t *testing.T) {
	room := []patch.Change{change(1, 1, 1, 3), change(4, 6, 6, 7), change(9, 9, 0, 0)}
	edits := []api.Edit{{From: 1, To: 1, Text: "ab"}, {From: 4, To: 6, Text: "\xff"}, {From: 9, To: 0, Text: "spare"}}
	was, wasEdits := slices.Clone(room), slices.Clone(edits)
	for name, call := range map[string]func() []patch.Change{
		"Of":                  func() []patch.Change { return patch.Of(edits[:2]) },
		"Invert":              func() []patch.Change { return patch.Invert(room[:2]) },
		"Compose":             func() []patch.Change { l, _ := patch.Compose(room[:2], room[:2]); return l },
		"Compose with none":   func() []patch.Change { l, _ := patch.Compose(room[:2], nil); return l },
		"Compose behind none": func() []patch.Change { l, _ := patch.Compose(nil, room[:2]); return l },
	} {
		one, two := call(), call()
		want := slices.Clone(two)
		one[0] = patch.Change{}
		_ = append(one, patch.Change{})
		if !slices.Equal(two, want) || !slices.Equal(call(), want) {
			t.Errorf("%s: answers share memory: %v", name, two)
		}
		if !slices.Equal(room, was) || !slices.Equal(edits, wasEdits) {
			t.Errorf("%s: an argument has changed: %v, %v", name, room, edits)
		}
	}
}
