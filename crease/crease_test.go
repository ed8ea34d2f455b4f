package crease_test

import (
	"math"
	"slices"
	"strings"
	"testing"

	"bodkin/api"
	"bodkin/crease"
	"bodkin/folds"
	"bodkin/inlays"
	"bodkin/patch"
	"bodkin/tree"
	"bodkin/weave"
)

// mix is a number from 0 to below n that is hard to foresee and ever the same.
func mix(seed, n int) int {
	x := uint64(seed)*0x9e3779b97f4a7c15 + 0x632be59bd9b4e019
	x ^= x >> 29
	x *= 0xbf58476d1ce4e5b9
	x ^= x >> 32
	return int(x % uint64(n))
}

// span is the places from one on, up to another one.
func span(from, to int) api.Span { return api.Span{From: from, To: to} }

// list are spans, told by their ends.
func list(ends ...int) []api.Span {
	var l []api.Span
	for i := 0; i < len(ends); i += 2 {
		l = append(l, span(ends[i], ends[i+1]))
	}
	return l
}

// setOf is the set of inlays, for a text of n runes.
func setOf(t *testing.T, n int, l []api.Inlay) *inlays.Set {
	t.Helper()
	s, e := inlays.New(n, l)
	if e != api.OK {
		t.Fatalf("inlays.New(%d, %v): %v", n, l, e)
	}
	return s
}

// of is the crease of a set of inlays and hidden spans that are right.
func of(t *testing.T, s *inlays.Set, hidden []api.Span) *crease.Crease {
	t.Helper()
	c, e := crease.New(weave.New(s), hidden)
	if c == nil || e != api.OK {
		t.Fatalf("New of %v and %v: %v, %v", s.All(), hidden, c, e)
	}
	return c
}

// some are k inlays of a text of n runes.
func some(n, k, seed int) []api.Inlay {
	texts := []string{"a", "bc", "\u4e00\U0001f600d", "\xff\xe4", strings.Repeat("\U0001f600", 5)}
	var l []api.Inlay
	for i := range k {
		at := seed + 4*i
		l = append(l, api.Inlay{ID: 1 + i, At: mix(at, n+1), Bias: mix(at+1, 2), Key: mix(at+2, 3), Text: texts[mix(at+3, len(texts))]})
	}
	return l
}

// spans are hidden spans of a text of n runes, that are apart or touch.
func spans(n, seed int) []api.Span {
	var l []api.Span
	for at, k := mix(seed, 4), seed; at < n; k += 2 {
		to := min(at+1+mix(k+1, 4), n)
		l = append(l, span(at, to))
		at = to + max(mix(k+2, 6)-2, 0)
	}
	return l
}

// creased is a woven text, told by what hides each of its runes: a number of the span that does, or 0.
type creased []int

// creasedOf is the woven text of a set, of which spans of the buffer are hidden, that are told by the numbers from first on.
func creasedOf(s *inlays.Set, hidden []api.Span, first int) creased {
	var x creased
	for at := range s.Len() + 1 {
		over, own := 0, 0 // what hides inlays here, and the rune behind them
		for i, h := range hidden {
			if h.From < at && at < h.To {
				over = first + i
			}
			if h.From <= at && at < h.To {
				own = first + i
			}
		}
		for _, in := range s.Within(at, at) {
			x = append(x, slices.Repeat([]int{over}, len([]rune(in.Text)))...)
		}
		if at < s.Len() {
			x = append(x, own)
		}
	}
	return x
}

// hides tells whether what is hidden is on both sides of a place.
func (x creased) hides(at int) bool {
	return 0 < at && at < len(x) && x[at] != 0 && x[at-1] == x[at]
}

// update is the text with what stands in the places now of another one, in which nothing has the same number, in the place of what stands in the places old.
func (x creased) update(old, now api.Span, y creased) creased {
	return slices.Concat(x[:old.From], y[now.From:now.To], x[old.To:])
}

// pieces are the text's.
func (x creased) pieces() []crease.Piece {
	var l []crease.Piece
	for at, h := range x {
		last := len(l) - 1
		switch {
		case h == 0 && last >= 0 && l[last].Hidden == 0:
			l[last].N++
		case h == 0:
			l = append(l, crease.Piece{N: 1})
		case x.hides(at):
			l[last].Hidden++
		default:
			l = append(l, crease.Piece{Hidden: 1, N: 1})
		}
	}
	return l
}

// ins are the places of the woven text at which those of the creased one are: all that are not within what is hidden.
func (x creased) ins() []int {
	var l []int
	for at := range len(x) + 1 {
		if !x.hides(at) {
			l = append(l, at)
		}
	}
	return l
}

// same tells whether a crease has pieces.
func same(c *crease.Crease, l []crease.Piece) bool { return slices.Equal(c.Pieces(), l) }

// hold tells what is wrong with the crease of a text.
func hold(t *testing.T, c *crease.Crease, x creased) {
	t.Helper()
	if c == nil {
		t.Fatal("no crease")
	}
	if !same(c, x.pieces()) {
		t.Fatalf("Pieces: %v, not %v", c.Pieces(), x.pieces())
	}
	ins := x.ins()
	if n, m := c.Sizes(); n != len(x) || m != len(ins)-1 {
		t.Fatalf("Sizes of %v: %d, %d", x, n, m)
	}
	holdTree(t, c, x)
	for at, want := range ins {
		if in, e := c.In(at); in != want || e != api.OK {
			t.Fatalf("In(%d) of %v: %d, %v, not %d", at, x, in, e, want)
		}
	}
	want := -1
	for at := range len(x) + 1 {
		if !x.hides(at) {
			want++
		}
		if out, e := c.Out(at); out != want || e != api.OK {
			t.Fatalf("Out(%d) of %v: %d, %v, not %d", at, x, out, e, want)
		}
	}
	holdWrong(t, c, len(x), len(ins)-1)
}

// holdTree tells what is wrong with the height of the tree of a text, and with what is visited of it.
func holdTree(t *testing.T, c *crease.Crease, x creased) {
	t.Helper()
	k, h := len(x.pieces()), c.Height()
	if (h == 0) != (k == 0) || h == 1 && k > tree.Wide || h > 2 && math.Pow(4, float64(h-2)) > float64(k+1) {
		t.Fatalf("Height %d of %d pieces", h, k)
	}
	for at := range len(x) + 1 {
		if v := c.Visits(at); v > h || (v == 0) != (k == 0) {
			t.Fatalf("Visits(%d): %d of a height of %d", at, v, h)
		}
	}
}

// holdWrong asks for places that a woven text of n runes and its creased one of m don't have.
func holdWrong(t *testing.T, c *crease.Crease, n, m int) {
	t.Helper()
	for _, far := range []int{-1, 1, math.MinInt, math.MaxInt} {
		at, in := far, far
		if far == 1 {
			at, in = n+1, m+1
		}
		if out, e := c.Out(at); out != 0 || e != api.ErrArg {
			t.Fatalf("Out(%d): %d, %v", at, out, e)
		}
		if v := c.Visits(at); v != 0 {
			t.Fatalf("Visits(%d): %d", at, v)
		}
		if back, e := c.In(in); back != 0 || e != api.ErrArg {
			t.Fatalf("In(%d): %d, %v", in, back, e)
		}
	}
}

// The document's example.
func TestExample(t *testing.T) {
	c := of(t, setOf(t, 6, nil), list(1, 4))
	for _, q := range []struct {
		ask      func(int) (int, api.Errno)
		at, want int
	}{{c.Out, 3, 1}, {c.Out, 4, 2}, {c.In, 2, 4}} {
		if n, e := q.ask(q.at); n != q.want || e != api.OK {
			t.Errorf("%d: %d, %v, not %d", q.at, n, e, q.want)
		}
	}
}

// 16.1, 16.2: of no inlay and no span, of one, and of many.
func TestNew(t *testing.T) {
	for seed := range 800 {
		n := []int{0, 1, 2, 7, 40, 200}[mix(seed, 6)]
		s, hidden := setOf(t, n, some(n, mix(seed+1, api.MaxInlays+1), 1000*seed)), spans(n, 500*seed)
		hold(t, of(t, s, hidden), creasedOf(s, hidden, 1))
	}
	for n := range 20 {
		s := setOf(t, n, nil)
		hold(t, of(t, s, nil), creasedOf(s, nil, 1))
		hold(t, of(t, s, []api.Span{}), creasedOf(s, nil, 1))
	}
}

// cuts are all lists of hidden spans of the places from one on, up to n.
func cuts(from, n int) [][]api.Span {
	l := [][]api.Span{nil}
	for ; from < n; from++ {
		for to := from + 1; to <= n; to++ {
			for _, more := range cuts(to, n) {
				l = append(l, slices.Concat(list(from, to), more))
			}
		}
	}
	return l
}

// 16.1, 16.2: all that may be hidden in a short buffer, with inlays of one or two runes at any of its places.
func TestNewSmall(t *testing.T) {
	for n := range 5 {
		for ways := range 1 << (n + 1) {
			var l []api.Inlay
			for at := range n + 1 {
				if ways>>at&1 == 1 {
					l = append(l, api.Inlay{ID: 1 + at, At: at, Bias: at % 2, Text: "ab"[at%2:]})
				}
			}
			s := setOf(t, n, l)
			for _, hidden := range cuts(0, n) {
				hold(t, of(t, s, hidden), creasedOf(s, hidden, 1))
			}
		}
	}
}

// 16.1: inlays at the ends of a hidden span are shown, by whatever bias they stand there, also between two that touch; those within are hidden.
func TestInlaysAtEnds(t *testing.T) {
	var l []api.Inlay
	for at := range 5 {
		l = append(l, api.Inlay{ID: 1 + at, At: at, Bias: api.Left, Text: "ab"}, api.Inlay{ID: 11 + at, At: at, Bias: api.Right, Text: "c"})
	}
	c := of(t, setOf(t, 4, l), list(0, 2, 2, 3, 3, 4))
	if want := []crease.Piece{{N: 3}, {Hidden: 5, N: 1}, {N: 3}, {Hidden: 1, N: 1}, {N: 3}, {Hidden: 1, N: 1}, {N: 3}}; !same(c, want) {
		t.Errorf("Pieces: %v", c.Pieces())
	}
}

// faults are lists of spans that are not right for a buffer of 9 runes.
func faults() [][]api.Span {
	return [][]api.Span{
		list(3, 3), list(0, 0), list(9, 9), list(4, 3), list(9, 0), list(-1, 3), list(-3, -1), list(-1, 0), list(3, 10), list(9, 10), list(10, 11),
		list(0, math.MaxInt), list(math.MinInt, 3), list(math.MinInt, math.MaxInt), list(math.MaxInt, math.MinInt),
		list(3, 5, 4, 6), list(3, 5, 3, 5), list(3, 5, 3, 6), list(0, 9, 1, 2), list(4, 6, 1, 2), list(4, 6, 1, 4), list(4, 6, 1, 9),
		list(0, 1, 2, 3, 2, 4), list(0, 1, 1, 1), list(0, 1, 1, 2, 2, 10), list(1, 2, 5, 4), list(2, 3, -1, 0),
		append(list(0, 3), list(3, 9, 8, 9)...),
	}
}

// 16.1, R4: spans that are not right.
func TestNewErrors(t *testing.T) {
	for _, s := range []*inlays.Set{setOf(t, 9, nil), setOf(t, 9, some(9, 20, 1))} {
		for _, l := range faults() {
			if c, e := crease.New(weave.New(s), l); c != nil || e != api.ErrArg {
				t.Errorf("New of %v: %v, %v", l, c, e)
			}
		}
		for _, l := range [][]api.Span{nil, list(0, 9), list(0, 1, 1, 2, 8, 9), list(0, 4, 4, 9)} {
			hold(t, of(t, s, l), creasedOf(s, l, 1))
		}
	}
	for i, w := range []*weave.Weave{nil, {}, weave.New(nil), weave.New(setOf(t, 0, some(0, 5, 1)))} {
		for _, l := range [][]api.Span{list(0, 0), list(0, 1), list(-1, 0), list(1, 2)} {
			if c, e := crease.New(w, l); c != nil || e != api.ErrArg {
				t.Errorf("%d: New of %v: %v, %v", i, l, c, e)
			}
		}
	}
}

// 16.1: as many pieces as a tree has room for, and more.
func TestNewFull(t *testing.T) {
	var touch []api.Span
	for at := range tree.Most + 1 {
		touch = append(touch, span(at, at+1))
	}
	w := weave.New(setOf(t, tree.Most+1, nil))
	for _, l := range [][]api.Span{touch[:tree.Most], touch} {
		if c, e := crease.New(w, l); c != nil || e != api.ErrFull {
			t.Errorf("New of %d spans: %v", len(l), e)
		}
	}
	c, e := crease.New(w, touch[:tree.Most-1])
	if n, m := c.Sizes(); e != api.OK || n != tree.Most+1 || m != tree.Most+1 || len(c.Pieces()) != tree.Most {
		t.Errorf("New of the most: %v, %d, %d, %d pieces", e, n, m, len(c.Pieces()))
	}
	if u, e := c.Update(span(tree.Most, tree.Most), span(tree.Most, tree.Most), w, touch); !same(u, c.Pieces()) || e != api.OK {
		t.Errorf("Update of nothing: %v", e)
	}
	if u, e := c.Update(span(tree.Most-1, tree.Most), span(tree.Most-1, tree.Most), w, touch); u != nil || e != api.ErrFull {
		t.Errorf("Update of the last but one: %v", e)
	}
}

// ask asks for some places, and tells which are answered wrong.
func ask(t *testing.T, what string, ask func(int) (int, api.Errno), places ...[2]int) {
	t.Helper()
	for _, p := range places {
		if n, e := ask(p[0]); n != p[1] || e != api.OK {
			t.Errorf("%s(%d): %d, %v, not %d", what, p[0], n, e, p[1])
		}
	}
}

// 16.1, 16.2, 16.3: the longest buffer: with inlays a piece of its woven text may have more runes than it.
func TestLongBuffer(t *testing.T) {
	const end = api.MaxInt
	long := strings.Repeat("a", api.MaxInlay)
	s := setOf(t, end, []api.Inlay{{ID: 1, Text: "ab"}, {ID: 2, At: end / 2, Text: "c"}, {ID: 3, At: end, Text: long}})
	w := weave.New(s)

	shown := of(t, s, nil)
	if n, m := shown.Sizes(); n != end+43 || m != end+43 || !same(shown, []crease.Piece{{N: end + 43}}) {
		t.Errorf("nothing hidden: %d, %d, %v", n, m, shown.Pieces())
	}
	for _, at := range []int{0, 1, end - 1, end, end + 1, end + 43} {
		ask(t, "Out", shown.Out, [2]int{at, at})
		ask(t, "In", shown.In, [2]int{at, at})
	}
	holdWrong(t, shown, end+43, end+43)

	most := of(t, s, list(0, end))
	if n, m := most.Sizes(); n != end+43 || m != 43 || !same(most, []crease.Piece{{N: 2}, {Hidden: end + 1, N: 1}, {N: 40}}) {
		t.Errorf("all hidden: %d, %d, %v", n, m, most.Pieces())
	}
	ask(t, "Out", most.Out, [][2]int{{0, 0}, {2, 2}, {3, 2}, {end - 1, 2}, {end, 2}, {end + 1, 2}, {end + 2, 2}, {end + 3, 3}, {end + 4, 4}, {end + 43, 43}}...)
	ask(t, "In", most.In, [][2]int{{0, 0}, {2, 2}, {3, end + 3}, {4, end + 4}, {43, end + 43}}...)
	holdWrong(t, most, end+43, 43)
	for _, at := range []int{3, end, end + 1, end + 2, end + 3} {
		for _, c := range []*crease.Crease{shown, most} {
			for _, hidden := range [][]api.Span{nil, list(0, end)} {
				u, e := c.Update(span(at, at), span(at, at), w, hidden)
				if inside := at < end+3 && (c == most || hidden != nil); inside && (u != nil || e != api.ErrArg) || !inside && (!same(u, c.Pieces()) || e != api.OK) {
					t.Errorf("Update at %d: %v, %v", at, e, u.Pieces())
				}
			}
		}
	}

	half := of(t, s, list(0, end/2, end/2, end-1))
	if want := []crease.Piece{{N: 2}, {Hidden: end / 2, N: 1}, {N: 1}, {Hidden: end/2 - 1, N: 1}, {N: 41}}; !same(half, want) {
		t.Errorf("Pieces: %v", half.Pieces())
	}
	u, e := shown.Update(span(2, end+3), span(2, end+3), w, list(0, end))
	if e != api.OK || !same(u, most.Pieces()) {
		t.Errorf("Update: %v, %v", e, u.Pieces())
	}
	u, e = most.Update(span(2, end+3), span(2, end+3), w, nil)
	if e != api.OK || !same(u, shown.Pieces()) {
		t.Errorf("Update back: %v, %v", e, u.Pieces())
	}
	u, e = shown.Update(span(1, end+42), span(1, 1), weave.New(setOf(t, 2, nil)), nil)
	if e != api.OK || !same(u, []crease.Piece{{N: 2}}) {
		t.Errorf("Update to a short one: %v, %v", e, u.Pieces())
	}
	u, e = u.Update(span(1, 1), span(1, end+42), w, list(1, end))
	if want := []crease.Piece{{N: 3}, {Hidden: end, N: 1}, {N: 40}}; e != api.OK || !same(u, want) {
		t.Errorf("Update to a long one: %v, %v", e, u.Pieces())
	}
}

// 16.3: of a crease and any weave and spans, each span that may be turned, and each that may not, as an end of it is within what is hidden.
func TestUpdateEverySpan(t *testing.T) {
	turned, refused := 0, 0
	for seed := range 60 {
		n, m := mix(seed, 8), mix(seed+1, 8)
		s, u := setOf(t, n, some(n, mix(seed+2, 5), 1000*seed)), setOf(t, m, some(m, mix(seed+3, 5), 2000*seed+1))
		was, is := spans(n, 100*seed), spans(m, 100*seed+50)
		x, y := creasedOf(s, was, 1), creasedOf(u, is, 100)
		c, w := of(t, s, was), weave.New(u)
		short := min(len(x), len(y))
		for from := range short + 1 {
			for behind := range short - from + 1 {
				old, now := span(from, len(x)-behind), span(from, len(y)-behind)
				v, e := c.Update(old, now, w, is)
				if x.hides(old.From) || x.hides(old.To) || y.hides(now.From) || y.hides(now.To) {
					refused++
					if v != nil || e != api.ErrArg {
						t.Fatalf("Update(%v, %v) of %v by %v: %v, %v", old, now, x, y, v, e)
					}
					continue
				}
				turned++
				if e != api.OK {
					t.Fatalf("Update(%v, %v) of %v by %v: %v", old, now, x, y, e)
				}
				hold(t, v, x.update(old, now, y))
			}
		}
		hold(t, c, x)
	}
	if turned < 1000 || refused < 1000 {
		t.Errorf("%d were turned, and %d refused", turned, refused)
	}
}

// 16.3: creases that are updated again and again by any weaves and spans, so that they grow; those that they were made of stay.
func TestUpdateAgain(t *testing.T) {
	creases, texts := []*crease.Crease{nil}, []creased{nil}
	tall, next := 0, 1
	for k := range 1500 {
		pick := len(creases) - 1 - mix(k, min(3, len(creases)))
		c, x := creases[pick], texts[pick]
		from := mix(k+1, len(x)+1)
		old := span(from, from+mix(k+2, min(len(x)-from, 4)+1))
		now := span(from, from+mix(k+3, 7))
		m := len(x) - (old.To - old.From) + now.To - now.From
		w := weave.New(setOf(t, m, nil))
		hidden := spans(m, 100*k)
		y := creasedOf(setOf(t, m, nil), hidden, next)
		next += len(hidden)
		if x.hides(old.From) || x.hides(old.To) || y.hides(now.From) || y.hides(now.To) {
			continue
		}
		u, e := c.Update(old, now, w, hidden)
		if e != api.OK {
			t.Fatalf("step %d: Update(%v, %v): %v", k, old, now, e)
		}
		z := x.update(old, now, y)
		hold(t, u, z)
		creases, texts = append(creases, u), append(texts, z)
		tall = max(tall, u.Height())
	}
	for i, c := range creases {
		if !same(c, texts[i].pieces()) {
			t.Fatalf("crease %d: %v, not %v", i, c.Pieces(), texts[i].pieces())
		}
	}
	if tall < 3 {
		t.Errorf("the tallest one has a height of %d, of %d", tall, len(creases))
	}
}

// 16.3: what is hidden outside of now is not taken over, nor what is hidden outside of old let go; what touches them is.
func TestUpdateOutside(t *testing.T) {
	s := setOf(t, 12, nil)
	c := of(t, s, list(1, 2, 3, 5, 5, 7, 7, 9, 10, 11))
	u, e := c.Update(span(5, 7), span(5, 7), weave.New(s), list(0, 3, 3, 5, 6, 7, 8, 12))
	if e != api.OK {
		t.Fatal(e)
	}
	if want := []crease.Piece{{N: 1}, {Hidden: 1, N: 1}, {N: 1}, {Hidden: 2, N: 1}, {N: 1}, {Hidden: 1, N: 1}, {Hidden: 2, N: 1}, {N: 1}, {Hidden: 1, N: 1}, {N: 1}}; !same(u, want) {
		t.Errorf("Pieces: %v", u.Pieces())
	}
	u, e = c.Update(span(2, 10), span(2, 10), weave.New(s), list(0, 2, 10, 12))
	if e != api.OK {
		t.Fatal(e)
	}
	if want := []crease.Piece{{N: 1}, {Hidden: 1, N: 1}, {N: 8}, {Hidden: 1, N: 1}, {N: 1}}; !same(u, want) {
		t.Errorf("Pieces: %v", u.Pieces())
	}
}

// 16.3, R4: what is no span, here or there, and spans that don't fit.
func TestUpdateErrors(t *testing.T) {
	s, v := setOf(t, 4, []api.Inlay{{ID: 1, At: 2, Text: "a"}}), setOf(t, 4, []api.Inlay{{ID: 2, At: 4, Text: "bcd"}})
	c, w := of(t, s, nil), weave.New(v) // 5 runes here, 7 there
	for i, q := range []struct {
		old, now api.Span
		e        api.Errno
	}{
		{span(0, 5), span(0, 7), api.OK},
		{span(5, 5), span(5, 7), api.OK},
		{span(0, 0), span(0, 2), api.OK},
		{span(3, 4), span(3, 6), api.OK},
		{span(-1, 5), span(-1, 7), api.ErrArg},
		{span(-1, 0), span(-1, 2), api.ErrArg},
		{span(-2, -2), span(-2, 0), api.ErrArg},
		{span(0, 6), span(0, 8), api.ErrArg},
		{span(6, 6), span(6, 8), api.ErrArg},
		{span(6, 5), span(6, 7), api.ErrArg},
		{span(3, 2), span(3, 4), api.ErrArg},
		{span(4, 0), span(4, 2), api.ErrArg},
		{span(2, 3), span(1, 5), api.ErrArg},
		{span(1, 3), span(2, 5), api.ErrArg},
		{span(2, 2), span(2, 3), api.ErrArg},
		{span(2, 2), span(2, 5), api.ErrArg},
		{span(2, 3), span(2, 4), api.ErrArg},
		{span(0, 5), span(0, 5), api.ErrArg},
		{span(math.MinInt, math.MaxInt), span(math.MinInt, math.MaxInt), api.ErrArg},
		{span(0, math.MinInt), span(0, math.MinInt+2), api.ErrArg},
		{span(0, math.MaxInt-2), span(0, math.MaxInt), api.ErrArg},
		{span(math.MaxInt, math.MinInt), span(math.MaxInt, math.MinInt+2), api.ErrArg},
	} {
		u, e := c.Update(q.old, q.now, w, nil)
		if e != q.e || (u == nil) != (e != api.OK) {
			t.Errorf("%d: Update(%v, %v): %v, %v", i, q.old, q.now, u, e)
		}
	}
	if u, e := c.Update(span(0, 5), span(0, 0), nil, nil); e != api.OK || u == nil || len(u.Pieces()) != 0 {
		t.Errorf("Update by nil: %v, %v", u, e)
	}
	for _, now := range []api.Span{span(0, 5), span(0, 1), span(0, -1)} {
		if u, e := c.Update(span(0, 5), now, nil, nil); u != nil || e != api.ErrArg {
			t.Errorf("Update to %v by nil: %v, %v", now, u, e)
		}
	}
	for i, q := range []struct { // of 3 runes there
		old, now api.Span
		e        api.Errno
	}{
		{span(1, 4), span(1, 2), api.OK},
		{span(3, 5), span(3, 3), api.OK},
		{span(1, 3), span(1, 3), api.ErrArg},
		{span(3, 4), span(3, 2), api.ErrArg},
		{span(5, 5), span(5, 3), api.ErrArg},
		{span(0, 1), span(0, -1), api.ErrArg},
		{span(4, 5), span(4, 3), api.ErrArg},
	} {
		if u, e := c.Update(q.old, q.now, weave.New(setOf(t, 3, nil)), nil); e != q.e || (u == nil) != (e != api.OK) {
			t.Errorf("%d: Update(%v, %v): %v, %v", i, q.old, q.now, u, e)
		}
	}
	hold(t, c, creasedOf(s, nil, 1))
}

// 16.3, R4: spans that are not right for the buffer there, also where they have nothing to do with what is turned.
func TestUpdateWrongSpans(t *testing.T) {
	s := setOf(t, 9, []api.Inlay{{ID: 1, At: 4, Text: "abcd"}})
	c, w := of(t, s, list(2, 3)), weave.New(s)
	for _, l := range faults() {
		for _, x := range list(0, 13, 0, 0, 13, 13) {
			if u, e := c.Update(x, x, w, l); u != nil || e != api.ErrArg {
				t.Errorf("Update(%v) by %v: %v, %v", x, l, u, e)
			}
		}
	}
	hold(t, c, creasedOf(s, list(2, 3), 1))
}

// 16.3: an end of old within what is hidden here, an end of now within what is hidden there; what is hidden there at an end of old, or here at one of now, is nothing to that.
func TestUpdateWithinHidden(t *testing.T) {
	here, there := setOf(t, 10, nil), setOf(t, 14, nil)
	for i, q := range []struct {
		was, is []api.Span
		e       api.Errno
	}{
		{nil, nil, api.OK},
		{list(2, 4), nil, api.ErrArg},
		{list(5, 8), nil, api.ErrArg},
		{list(1, 9), nil, api.ErrArg},
		{nil, list(2, 4), api.ErrArg},
		{nil, list(9, 12), api.ErrArg},
		{nil, list(1, 13), api.ErrArg},
		{list(2, 4), list(2, 4), api.ErrArg},
		{list(1, 3, 3, 6, 6, 10), list(1, 3, 3, 10, 10, 14), api.OK},
		{list(9, 10), list(5, 8), api.OK},
		{list(3, 6), list(3, 10), api.OK},
	} {
		c := of(t, here, q.was)
		u, e := c.Update(span(3, 6), span(3, 10), weave.New(there), q.is)
		if e != q.e || (u == nil) != (e != api.OK) {
			t.Errorf("%d: Update: %v, %v", i, u, e)
		}
		if e == api.OK {
			hold(t, u, creasedOf(here, q.was, 1).update(span(3, 6), span(3, 10), creasedOf(there, q.is, 100)))
		}
	}
}

// 16.4: there and back.
func TestThereAndBack(t *testing.T) {
	for seed := range 200 {
		n := mix(seed, 30)
		s, hidden := setOf(t, n, some(n, mix(seed+1, 20), 1000*seed)), spans(n, 500*seed)
		c, w := of(t, s, hidden), weave.New(s)
		size, shown := c.Sizes()
		for at := range shown + 1 {
			in, e := c.In(at)
			out, f := c.Out(in)
			if out != at || e != api.OK || f != api.OK {
				t.Fatalf("In(%d): %d, Out: %d", at, in, out)
			}
		}
		for at := range size + 1 {
			want := at
			for _, x := range hidden {
				from, _ := w.Out(x.From, api.Right)
				to, _ := w.Out(x.To, api.Left)
				if from < at && at < to {
					want = from
				}
			}
			out, e := c.Out(at)
			in, f := c.In(out)
			if in != want || e != api.OK || f != api.OK {
				t.Fatalf("Out(%d): %d, In: %d, not %d", at, out, in, want)
			}
		}
	}
}

// patchOf is a normal patch of a text of n runes.
func patchOf(n, seed int) []patch.Change {
	var ends []int
	for i := range 2 + 2*mix(seed, 3) {
		ends = append(ends, mix(seed+i+1, n+1))
	}
	slices.Sort(ends)
	var l []api.Edit
	for i := 0; i < len(ends); i += 2 {
		l = append(l, api.Edit{From: ends[i], To: ends[i+1], Text: strings.Repeat("x", 1+mix(seed+i+20, 4))})
	}
	return patch.Of(l)
}

// shown are spans without those that are on both sides of an end of some places.
func shown(l []api.Span, turned ...api.Span) []api.Span {
	return slices.DeleteFunc(l, func(x api.Span) bool {
		return slices.ContainsFunc(turned, func(y api.Span) bool {
			return x.From < y.From && y.From < x.To || x.From < y.To && y.To < x.To
		})
	})
}

// 16.5: a text that is edited, in which inlays and folds go and come between the first edit and the last one.
func TestUpdateIsNew(t *testing.T) {
	for seed := range 2000 {
		n := mix(seed, 40)
		p := patchOf(n, 100*seed)
		old, now := span(p[0].Old.From, p[len(p)-1].Old.To), span(p[0].New.From, p[len(p)-1].New.To)
		was := setOf(t, n, some(n, mix(seed+1, 12), 1000*seed))
		is, e := was.Shift(p)
		hidden := shown(spans(n, 300*seed), old)
		set, f := folds.New(n, hidden)
		if e != api.OK || f != api.OK {
			t.Fatal(e, f)
		}
		set, e = set.Shift(p)
		if e != api.OK {
			t.Fatal(e)
		}
		if first := set.All(); mix(seed+2, 2) == 0 { // those within, which may overlap then, make room for others
			first = slices.DeleteFunc(first, func(x api.Span) bool { return now.From <= x.From && x.To <= now.To })
			for _, x := range spans(now.To-now.From, 300*seed+150) {
				first = append(first, span(now.From+x.From, now.From+x.To))
			}
			set, e = folds.New(is.Len(), first)
			if e != api.OK {
				t.Fatal(e)
			}
		}
		v, w := weave.New(was), weave.New(is)
		c := of(t, was, hidden)
		u, e := c.Update(wovenSpan(v, old), wovenSpan(w, now), w, set.Hidden())
		if want := of(t, is, set.Hidden()); e != api.OK || !same(u, want.Pieces()) {
			t.Fatalf("Update(%v, %v): %v, %v, not %v", old, now, e, u.Pieces(), want.Pieces())
		}
		hold(t, u, creasedOf(is, set.Hidden(), 1))
		hold(t, c, creasedOf(was, hidden, 1))
	}
}

// wovenSpan are the places of the woven text of a span of the buffer, with the inlays at both its ends.
func wovenSpan(w *weave.Weave, x api.Span) api.Span {
	from, _ := w.Out(x.From, api.Left)
	to, _ := w.Out(x.To, api.Right)
	return span(from, to)
}

// 16.5: where nothing but what is hidden changes, of each list of spans by each.
func TestUpdateFolds(t *testing.T) {
	s := setOf(t, 4, []api.Inlay{{ID: 1, At: 2, Text: "ab"}, {ID: 2, At: 3, Text: "c"}})
	w := weave.New(s)
	for _, was := range cuts(0, 4) {
		for _, is := range cuts(0, 4) {
			c, want := of(t, s, was), of(t, s, is)
			u, e := c.Update(span(0, 7), span(0, 7), w, is)
			if e != api.OK || !same(u, want.Pieces()) {
				t.Fatalf("Update of %v by %v: %v, %v", was, is, e, u.Pieces())
			}
			hold(t, u, creasedOf(s, is, 1))
		}
	}
}

// A nil crease, one that nobody made, and that of a nil weave are of an empty text.
func TestNil(t *testing.T) {
	s := setOf(t, 3, []api.Inlay{{ID: 1, At: 0, Text: "a"}, {ID: 2, At: 3, Text: "b"}})
	var none *crease.Crease
	if len(none.Pieces()) > 0 || none.Height() != 0 || none.Visits(0) != 0 {
		t.Errorf("%v, %d, %d", none.Pieces(), none.Height(), none.Visits(0))
	}
	if n, m := none.Sizes(); n != 0 || m != 0 {
		t.Errorf("Sizes: %d, %d", n, m)
	}
	ask(t, "Out", none.Out, [2]int{0, 0})
	ask(t, "In", none.In, [2]int{0, 0})
	holdWrong(t, none, 0, 0)
	empty, e := crease.New(nil, nil)
	if empty == nil || e != api.OK {
		t.Fatalf("New of nil: %v, %v", empty, e)
	}
	for _, c := range []*crease.Crease{none, {}, empty, of(t, setOf(t, 0, nil), nil)} {
		for _, hidden := range [][]api.Span{nil, list(0, 3), list(0, 1, 2, 3)} {
			u, e := c.Update(span(0, 0), span(0, 5), weave.New(s), hidden)
			if e != api.OK {
				t.Fatal(e)
			}
			hold(t, u, creasedOf(s, hidden, 1))
		}
		for _, q := range [][2]api.Span{{span(0, 1), span(0, 6)}, {span(0, 0), span(0, 4)}, {span(1, 1), span(1, 6)}, {span(-1, 0), span(-1, 5)}} {
			if u, e := c.Update(q[0], q[1], weave.New(s), nil); u != nil || e != api.ErrArg {
				t.Errorf("Update%v: %v, %v", q, u, e)
			}
		}
		u, e := c.Update(span(0, 0), span(0, 0), nil, nil)
		if e != api.OK {
			t.Fatal(e)
		}
		hold(t, u, nil)
	}
}

// R3: what is handed in stays, spare room too, and is not kept; what is handed out is not shared with the crease, nor with another answer.
func TestNothingIsShared(t *testing.T) {
	s := setOf(t, 9, some(9, 20, 1))
	room := list(1, 3, 3, 4, 6, 8, 8, 9)
	was := slices.Clone(room)
	x := creasedOf(s, room[:3], 1)
	c := of(t, s, room[:3])
	u, e := c.Update(span(0, len(x)), span(0, len(x)), weave.New(s), room[:3])
	if e != api.OK || !slices.Equal(room, was) {
		t.Fatalf("%v, or an argument has changed: %v", e, room)
	}
	clear(room)
	for _, c := range []*crease.Crease{c, u} {
		one, two := c.Pieces(), c.Pieces()
		clear(one[:cap(one)])
		if !slices.Equal(two, x.pieces()) {
			t.Errorf("two answers share: %v", two)
		}
		hold(t, c, x)
	}
}
