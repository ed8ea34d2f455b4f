package batch_test

import (
	"math"
	"slices"
	"strings"
	"testing"

	"bodkin/api"
	"bodkin/batch"
	"bodkin/rope"
)

// mix is a number from 0 to below n that is hard to foresee and ever the same.
func mix(seed, n int) int {
	x := uint64(seed)*0x9e3779b97f4a7c15 + 0x632be59bd9b4e019
	x ^= x >> 29
	x *= 0xbf58476d1ce4e5b9
	x ^= x >> 32
	return int(x % uint64(n))
}

// of is the rope of a text.
func of(t *testing.T, text string) *rope.Rope {
	t.Helper()
	r, e := rope.New(text)
	if e != api.OK {
		t.Fatalf("New: %v", e)
	}
	return r
}

// some is a clean text of n runes of one to four bytes.
func some(n, seed int) string {
	kinds := []rune{'a', 'b', '\n', 0xe9, 0x4e00, 0x1f600, api.Bad, 0}
	var l []rune
	for i := range n {
		l = append(l, kinds[mix(seed+i, len(kinds))])
	}
	return string(l)
}

// inserts are texts that edits put in, those too that are not clean.
var inserts = []string{"", "x", "yz", "\n", "\u4e00", "\xff", "\xe4\xb8", "\x80", "\xf0\x9f\x98", "a\xc3", "\xa9\U0001f600", "0123456789abcdefghijklmnopqrstuvwxyz"}

// right is a batch of k edits that is right for a text of n runes; many of its edits touch.
func right(n, k, seed int) []api.Edit {
	var ends []int
	for i := range 2 * k {
		ends = append(ends, mix(seed+i, n+1))
	}
	slices.Sort(ends)
	var l []api.Edit
	for i := range k {
		x := api.Edit{From: ends[2*i], To: ends[2*i+1], Text: inserts[mix(seed+7*i+3, len(inserts))]}
		if i > 0 && mix(seed+i+5, 3) == 0 {
			x.From = l[i-1].To
		}
		if mix(seed+i+6, 4) == 0 {
			x.To = x.From
		}
		l = append(l, x)
	}
	return l
}

// clean is a text whose bytes that are no runes' are api.Bad.
func clean(s string) string { return string([]rune(s)) }

// oneByOne is a text behind edits, from the last one to the first.
func oneByOne(text string, l []api.Edit) string {
	runes := []rune(text)
	for _, x := range slices.Backward(l) {
		runes = slices.Concat(runes[:x.From], []rune(x.Text), runes[x.To:])
	}
	return string(runes)
}

// sized tells what is wrong with how a rope has its text.
func sized(t *testing.T, r *rope.Rope) {
	t.Helper()
	least := min(rope.Least, r.Runes())
	for _, p := range r.Pieces() {
		if n := len([]rune(p)); n < least || n > rope.Piece {
			t.Fatalf("a piece of %d runes: %q", n, r.Pieces())
		}
	}
}

// hold tells what is wrong with a batch that is right for a text, applied and inverted.
func hold(t *testing.T, text string, l []api.Edit) {
	t.Helper()
	r, n := of(t, text), len([]rune(text))
	if e := batch.Check(n, l); e != api.OK {
		t.Fatalf("Check(%d, %v): %v", n, l, e)
	}
	want := oneByOne(text, l)
	s, e := batch.Apply(r, l)
	if e != api.OK || s.Text() != want {
		t.Fatalf("Apply(%q, %v): %v, %q, not %q", text, l, e, s.Text(), want)
	}
	sized(t, s)
	if grown := batch.Size(l); grown != len([]rune(want))-n {
		t.Fatalf("Size(%v): %d, not %d", l, grown, len([]rune(want))-n)
	}
	holdInverse(t, r, s, l)
	if r.Text() != text {
		t.Fatalf("the rope has changed: %q, not %q", r.Text(), text)
	}
}

// holdInverse tells what is wrong with what undoes a batch that made one rope of another one.
func holdInverse(t *testing.T, was, is *rope.Rope, l []api.Edit) {
	t.Helper()
	back, e := batch.Invert(was, l)
	if e != api.OK || len(back) != len(l) {
		t.Fatalf("Invert(%q, %v): %v, %v", was.Text(), l, e, back)
	}
	now := []rune(is.Text())
	for i, x := range back {
		begin := l[i].From + batch.Size(l[:i])
		if x.From != begin || string(now[x.From:x.To]) != clean(l[i].Text) {
			t.Fatalf("Invert(%q, %v): edit %d is %v", was.Text(), l, i, x)
		}
		if x.Text != string([]rune(was.Text())[l[i].From:l[i].To]) {
			t.Fatalf("Invert(%q, %v): edit %d has the text %q", was.Text(), l, i, x.Text)
		}
	}
	if u, e := batch.Apply(is, back); e != api.OK || u.Text() != was.Text() {
		t.Fatalf("%v of %q is not undone by %v: %v, %q", l, was.Text(), back, e, u.Text())
	}
	again, e := batch.Invert(is, back)
	if e != api.OK || len(again) != len(l) {
		t.Fatalf("Invert of %v: %v, %v", back, e, again)
	}
	for i, x := range l {
		if x.Text = clean(x.Text); again[i] != x {
			t.Fatalf("%v, inverted twice: %v", l, again)
		}
	}
}

// The document's example.
func TestExample(t *testing.T) {
	r := of(t, "abcd")
	l := []api.Edit{{From: 1, To: 2, Text: "xy"}, {From: 3, To: 3, Text: "z"}}
	if s, e := batch.Apply(r, l); e != api.OK || s.Text() != "axyczd" {
		t.Errorf("Apply: %v, %q", e, s.Text())
	}
	if m, e := batch.Invert(r, l); e != api.OK || !slices.Equal(m, []api.Edit{{From: 1, To: 3, Text: "b"}, {From: 4, To: 5}}) {
		t.Errorf("Invert: %v, %v", e, m)
	}
}

// 9.1: each thing that is wrong, and what is told first where more is wrong.
func TestCheck(t *testing.T) {
	full := make([]api.Edit, api.MaxEdits)
	for i, c := range []struct {
		n    int
		l    []api.Edit
		want api.Errno
	}{
		{0, nil, api.OK},
		{0, []api.Edit{}, api.OK},
		{0, []api.Edit{{}}, api.OK},
		{0, []api.Edit{{Text: "a"}, {Text: "b"}}, api.OK},
		{3, []api.Edit{{From: 3, To: 3}}, api.OK},
		{3, []api.Edit{{From: 0, To: 3}}, api.OK},
		{3, []api.Edit{{From: 0, To: 1}, {From: 1, To: 1}, {From: 1, To: 3}, {From: 3, To: 3}}, api.OK},
		{3, []api.Edit{{From: -1, To: 1}}, api.ErrArg},
		{3, []api.Edit{{From: 2, To: 1}}, api.ErrArg},
		{3, []api.Edit{{From: 3, To: 4}}, api.ErrArg},
		{3, []api.Edit{{From: 4, To: 4}}, api.ErrArg},
		{0, []api.Edit{{From: 0, To: 1}}, api.ErrArg},
		{-1, []api.Edit{{}}, api.ErrArg},
		{3, []api.Edit{{From: math.MinInt, To: math.MaxInt}}, api.ErrArg},
		{3, []api.Edit{{From: math.MaxInt, To: math.MinInt}}, api.ErrArg},
		{3, []api.Edit{{From: 0, To: 2}, {From: 1, To: 3}}, api.ErrOrder},
		{3, []api.Edit{{From: 1, To: 2}, {From: 0, To: 0}}, api.ErrOrder},
		{3, []api.Edit{{From: 1, To: 1}, {From: 0, To: 1}}, api.ErrOrder},
		{3, []api.Edit{{From: 0, To: 1}, {From: 2, To: 2}, {From: 1, To: 3}}, api.ErrOrder},
		{3, []api.Edit{{From: 0, To: 2}, {From: 1, To: 4}}, api.ErrArg},
		{3, []api.Edit{{From: 0, To: 2}, {From: 1, To: 0}}, api.ErrArg},
		{3, []api.Edit{{From: 0, To: 2}, {From: 1, To: 1}, {From: -1, To: 1}}, api.ErrOrder},
		{3, []api.Edit{{From: 0, To: 2}, {From: -1, To: 1}, {From: 1, To: 1}}, api.ErrArg},
		{0, full, api.OK},
		{0, append(full[:api.MaxEdits:api.MaxEdits], api.Edit{}), api.ErrLong},
		{0, append([]api.Edit{{From: -1}, {From: 1}, {From: 0}}, full...), api.ErrLong},
		{api.MaxInt, []api.Edit{{From: api.MaxInt, To: api.MaxInt}}, api.OK},
	} {
		if e := batch.Check(c.n, c.l); e != c.want {
			t.Errorf("%d: Check(%d, %v): %v, not %v", i, c.n, c.l, e, c.want)
		}
	}
}

// 9.1
func TestSize(t *testing.T) {
	for i, c := range []struct {
		l    []api.Edit
		want int
	}{
		{nil, 0},
		{[]api.Edit{{From: 3, To: 3}}, 0},
		{[]api.Edit{{From: 3, To: 5}}, -2},
		{[]api.Edit{{From: 3, To: 5, Text: "abc"}}, 1},
		{[]api.Edit{{Text: "\u4e00\U0001f600"}}, 2},
		{[]api.Edit{{Text: "\xe4\xb8"}, {Text: "\x80"}}, 3},
		{[]api.Edit{{From: 0, To: 9, Text: "a"}, {From: 9, To: 9, Text: "bc"}, {From: 20, To: 21}}, -7},
	} {
		if n := batch.Size(c.l); n != c.want {
			t.Errorf("%d: Size(%v): %d, not %d", i, c.l, n, c.want)
		}
	}
}

// 9.2 to 9.4: batches of many kinds, of short texts and of some pieces.
func TestApplyAndInvert(t *testing.T) {
	for seed := range 3000 {
		n := mix(seed, 12)
		if seed%3 == 0 {
			n = mix(seed, 120)
		}
		hold(t, some(n, 11*seed), right(n, mix(seed+1, 7), 100*seed))
	}
	for seed := range 50 {
		hold(t, some(300, seed), right(300, api.MaxEdits, 1000*seed))
	}
}

// 9.2: each span of a text, alone and with an edit that touches it.
func TestEachSpan(t *testing.T) {
	const text = "a\u00e9\n\u4e00b"
	for from := range 6 {
		for to := from; to < 6; to++ {
			for _, s := range inserts {
				hold(t, text, []api.Edit{{From: from, To: to, Text: s}})
				hold(t, text, []api.Edit{{From: from, To: from, Text: s}, {From: from, To: to}, {From: to, To: to, Text: "z"}})
				hold(t, text, []api.Edit{{From: 0, To: from, Text: "z"}, {From: to, To: 5, Text: s}})
			}
		}
	}
}

// 9.2: no edit, and edits of nothing.
func TestNothing(t *testing.T) {
	for _, text := range []string{"", "a", some(100, 1)} {
		n := len([]rune(text))
		hold(t, text, nil)
		hold(t, text, []api.Edit{{}})
		hold(t, text, []api.Edit{{From: n, To: n}})
		hold(t, text, []api.Edit{{From: 0, To: n}})
		hold(t, text, []api.Edit{{From: 0, To: n, Text: text}})
	}
}

// 9.2: bytes of texts side by side, each cleaned by itself, are no rune together.
func TestTextsAreCleanByThemselves(t *testing.T) {
	r := of(t, "ab")
	l := []api.Edit{{From: 1, To: 1, Text: "\xe4"}, {From: 1, To: 1, Text: "\xb8"}, {From: 1, To: 1, Text: "\x80"}}
	if s, e := batch.Apply(r, l); e != api.OK || s.Text() != "a\ufffd\ufffd\ufffdb" {
		t.Errorf("Apply: %v, %q", e, s.Text())
	}
	want := []api.Edit{{From: 1, To: 2}, {From: 2, To: 3}, {From: 3, To: 4}}
	if m, e := batch.Invert(r, l); e != api.OK || !slices.Equal(m, want) {
		t.Errorf("Invert: %v, %v", e, m)
	}
}

// 9.2: as many runes as a text may have, and one more; on the way from edit to edit there may be more.
func TestMost(t *testing.T) {
	r := of(t, strings.Repeat("\u4e00", api.MaxText-10))
	n, full := r.Runes(), strings.Repeat("\xff", 20)
	for i, c := range []struct {
		l    []api.Edit
		want api.Errno
	}{
		{[]api.Edit{{From: 5, To: 5, Text: "0123456789"}}, api.OK},
		{[]api.Edit{{From: 5, To: 5, Text: "0123456789a"}}, api.ErrFull},
		{[]api.Edit{{From: 0, To: 10}, {From: n, To: n, Text: full}}, api.OK},
		{[]api.Edit{{From: 0, To: 0, Text: full}, {From: n - 10, To: n}}, api.OK},
		{[]api.Edit{{From: 0, To: 9}, {From: n, To: n, Text: full}}, api.ErrFull},
		{[]api.Edit{{From: 0, To: 0, Text: full}, {From: n - 9, To: n}}, api.ErrFull},
		{[]api.Edit{{From: 0, To: n, Text: strings.Repeat("a", api.MaxText)}}, api.OK},
		{[]api.Edit{{From: 0, To: n, Text: strings.Repeat("a", api.MaxText+1)}}, api.ErrFull},
	} {
		s, e := batch.Apply(r, c.l)
		if e != c.want || (s == nil) != (e != api.OK) {
			t.Errorf("%d: Apply: %v", i, e)
			continue
		}
		m, e := batch.Invert(r, c.l)
		if e != c.want || e != api.OK && m != nil {
			t.Errorf("%d: Invert: %v, %d", i, e, len(m))
		}
		if e == api.OK && s.Text() != oneByOne(r.Text(), c.l) {
			t.Errorf("%d: another text of %d runes", i, s.Runes())
		}
		if e == api.OK {
			holdInverse(t, r, s, c.l)
		}
	}
}

// 9.2, R4: errors, Check's ahead of ErrFull; nothing is answered beside them, and the rope stays.
func TestErrors(t *testing.T) {
	r, full := of(t, "abc\u4e00"), strings.Repeat("a", api.MaxText)
	for i, c := range []struct {
		l    []api.Edit
		want api.Errno
	}{
		{[]api.Edit{{From: 4, To: 5}}, api.ErrArg},
		{[]api.Edit{{From: 5, To: 5}}, api.ErrArg},
		{[]api.Edit{{From: -1, To: 0}}, api.ErrArg},
		{[]api.Edit{{From: 2, To: 1}}, api.ErrArg},
		{[]api.Edit{{From: math.MinInt, To: math.MaxInt}}, api.ErrArg},
		{[]api.Edit{{From: 0, To: 3}, {From: 2, To: 4}}, api.ErrOrder},
		{make([]api.Edit, api.MaxEdits+1), api.ErrLong},
		{[]api.Edit{{Text: full}}, api.ErrFull},
		{[]api.Edit{{Text: full}, {From: 4, To: 5}}, api.ErrArg},
		{[]api.Edit{{From: 1, To: 2, Text: full}, {From: 1, To: 2}}, api.ErrOrder},
		{append([]api.Edit{{From: -1, Text: full}}, make([]api.Edit, api.MaxEdits)...), api.ErrLong},
	} {
		if s, e := batch.Apply(r, c.l); s != nil || e != c.want {
			t.Errorf("%d: Apply: %v, not %v", i, e, c.want)
		}
		if m, e := batch.Invert(r, c.l); len(m) != 0 || e != c.want {
			t.Errorf("%d: Invert: %v, %v, not %v", i, m, e, c.want)
		}
	}
	if r.Text() != "abc\u4e00" {
		t.Errorf("the rope has changed: %q", r.Text())
	}
}

// A nil rope is that of an empty text.
func TestNilRope(t *testing.T) {
	l := []api.Edit{{Text: "a"}, {Text: "\xff"}}
	for _, r := range []*rope.Rope{nil, {}} {
		if s, e := batch.Apply(r, l); e != api.OK || s.Text() != "a\ufffd" {
			t.Errorf("Apply: %v, %q", e, s.Text())
		}
		if m, e := batch.Invert(r, l); e != api.OK || !slices.Equal(m, []api.Edit{{To: 1}, {From: 1, To: 2}}) {
			t.Errorf("Invert: %v, %v", e, m)
		}
		if s, e := batch.Apply(r, nil); e != api.OK || s == nil || s.Text() != "" {
			t.Errorf("Apply of no edit: %v, %q", e, s.Text())
		}
		if m, e := batch.Invert(r, nil); e != api.OK || len(m) != 0 {
			t.Errorf("Invert of no edit: %v, %v", e, m)
		}
		if s, e := batch.Apply(r, []api.Edit{{To: 1}}); s != nil || e != api.ErrArg {
			t.Errorf("Apply: %v", e)
		}
	}
}

// R3, R6: what is handed in stays, spare room too, and is not kept; two answers share nothing.
func TestWhatIsHandedInStays(t *testing.T) {
	r := of(t, "abcd")
	room := []api.Edit{{From: 0, To: 1, Text: "\xff"}, {From: 2, To: 4, Text: "x"}, {From: 9, To: 8, Text: "spare"}}
	was := slices.Clone(room)
	l := room[:2]
	s, _ := batch.Apply(r, l)
	one, _ := batch.Invert(r, l)
	two, _ := batch.Invert(r, l)
	batch.Check(4, l)
	batch.Size(l)
	if !slices.Equal(room, was) {
		t.Errorf("an argument has changed: %v", room)
	}
	l[0] = api.Edit{}
	want := slices.Clone(two)
	one[0] = api.Edit{From: 7}
	_ = append(one, api.Edit{From: 8})
	if !slices.Equal(two, want) || s.Text() != "\ufffdbx" {
		t.Errorf("answers share memory: %v, %q", two, s.Text())
	}
}
