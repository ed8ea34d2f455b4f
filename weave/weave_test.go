package weave_test

import (
	"math"
	"slices"
	"strings"
	"testing"

	"bodkin/api"
	"bodkin/inlays"
	"bodkin/patch"
	"bodkin/tree"
	"bodkin/weave"
)

// mix is a number from 0 to below n that is hard to foresee and ever the same.
func mix(seed, n int) int {
	x := uint64(seed)*0x9e3779b97f4a7c15 + 0x632be59bd9b4e019
	x ^= x >> 29
	x *= 0xbf58476d1ce4e5b9
	x ^= x >> 32
	return int(x % uint64(n))
}

// span is the places from one on, up to another one.
func span(from, to int) api.Span { return api.Span{From: from, To: to} }

// setOf is the set of inlays, for a text of n runes.
func setOf(t *testing.T, n int, l []api.Inlay) *inlays.Set {
	t.Helper()
	s, e := inlays.New(n, l)
	if e != api.OK {
		t.Fatalf("inlays.New(%d, %v): %v", n, l, e)
	}
	return s
}

// some are k inlays of a text of n runes, their IDs from first on.
func some(n, k, first, seed int) []api.Inlay {
	texts := []string{"a", "bc", "\u4e00\U0001f600d", "\xff\xe4", strings.Repeat("\U0001f600", 5)}
	var l []api.Inlay
	for i := range k {
		at := seed + 4*i
		l = append(l, api.Inlay{ID: first + i, At: mix(at, n+1), Bias: mix(at+1, 2), Key: mix(at+2, 3), Text: texts[mix(at+3, len(texts))]})
	}
	return l
}

// many are as many inlays as there may be, all at one place of a text, their IDs from first on.
func many(at, first int) []api.Inlay {
	l := some(0, api.MaxInlays, first, first)
	for i := range l {
		l[i].At = at
	}
	return l
}

// woven is a woven text, told by the inlays at each place of the buffer: there is one place more than runes.
type woven [][]weave.Piece

// wovenOf is the woven text of a set.
func wovenOf(s *inlays.Set) woven {
	x := make(woven, s.Len()+1)
	for _, in := range s.All() {
		x[in.At] = append(x[in.At], weave.Piece{ID: in.ID, N: len([]rune(in.Text))})
	}
	return x
}

// update is the woven text with what stands at the places now of another one in the place of what stands at the places old.
func (x woven) update(old, now api.Span, y woven) woven {
	return slices.Concat(x[:old.From], y[now.From:now.To+1], x[old.To+1:])
}

// pieces are the woven text's.
func (x woven) pieces() []weave.Piece {
	var l []weave.Piece
	for at, in := range x {
		switch last := len(l) - 1; {
		case at == 0: // no rune is ahead of it
		case last >= 0 && l[last].ID == 0:
			l[last].N++
		default:
			l = append(l, weave.Piece{N: 1})
		}
		l = append(l, in...)
	}
	return l
}

// spots are the buffer's place and the inlay's ID of each place of the woven text.
func (x woven) spots() [][2]int {
	l := [][2]int{{0, 0}}
	for at, in := range x {
		if at > 0 {
			l = append(l, [2]int{at, 0})
		}
		for _, p := range in {
			for range p.N - 1 {
				l = append(l, [2]int{at, p.ID})
			}
			l = append(l, [2]int{at, 0})
		}
	}
	return l
}

// outs are where each place of the buffer is, by either bias.
func (x woven) outs() [][2]int {
	var l [][2]int
	ahead := 0
	for at, in := range x {
		if at > 0 {
			ahead++
		}
		left := ahead
		for _, p := range in {
			ahead += p.N
		}
		l = append(l, [2]int{api.Left: left, api.Right: ahead})
	}
	return l
}

// same tells whether a weave has pieces.
func same(w *weave.Weave, l []weave.Piece) bool { return slices.Equal(w.Pieces(), l) }

// hold tells what is wrong with the weave of a woven text.
func hold(t *testing.T, w *weave.Weave, x woven) {
	t.Helper()
	if w == nil {
		t.Fatal("no weave")
	}
	if !same(w, x.pieces()) {
		t.Fatalf("Pieces: %v, not %v", w.Pieces(), x.pieces())
	}
	spots := x.spots()
	if n, m := w.Sizes(); n != len(x)-1 || m != len(spots)-1 {
		t.Fatalf("Sizes of %v: %d, %d", x, n, m)
	}
	holdTree(t, w, x)
	for at, out := range x.outs() {
		for bias, want := range out {
			if n, e := w.Out(at, bias); n != want || e != api.OK {
				t.Fatalf("Out(%d, %d) of %v: %d, %v, not %d", at, bias, x, n, e, want)
			}
		}
	}
	for at, want := range spots {
		if n, id, e := w.In(at); n != want[0] || id != want[1] || e != api.OK {
			t.Fatalf("In(%d) of %v: %d, %d, %v, not %v", at, x, n, id, e, want)
		}
	}
	holdWrong(t, w, len(x)-1, len(spots)-1)
}

// holdTree tells what is wrong with the height of the tree of a woven text, and with what is visited of it.
func holdTree(t *testing.T, w *weave.Weave, x woven) {
	t.Helper()
	k, h := len(x.pieces()), w.Height()
	if (h == 0) != (k == 0) || h == 1 && k > tree.Wide || h > 2 && math.Pow(4, float64(h-2)) > float64(k+1) {
		t.Fatalf("Height %d of %d pieces", h, k)
	}
	for at := range x {
		if v := w.Visits(at); v > h || (v == 0) != (k == 0) {
			t.Fatalf("Visits(%d): %d of a height of %d", at, v, h)
		}
	}
}

// holdWrong asks for places that a buffer of n runes and its woven text of m don't have.
func holdWrong(t *testing.T, w *weave.Weave, n, m int) {
	t.Helper()
	for _, at := range []int{-1, n + 1, math.MinInt, math.MaxInt} {
		for _, bias := range []int{api.Left, api.Right, 2} {
			if out, e := w.Out(at, bias); out != 0 || e != api.ErrArg {
				t.Fatalf("Out(%d, %d): %d, %v", at, bias, out, e)
			}
		}
		if v := w.Visits(at); v != 0 {
			t.Fatalf("Visits(%d): %d", at, v)
		}
	}
	for _, bias := range []int{-1, 2, math.MinInt, math.MaxInt} {
		for _, at := range []int{0, n} {
			if out, e := w.Out(at, bias); out != 0 || e != api.ErrArg {
				t.Fatalf("Out(%d, %d): %d, %v", at, bias, out, e)
			}
		}
	}
	for _, at := range []int{-1, m + 1, math.MinInt, math.MaxInt} {
		if in, id, e := w.In(at); in != 0 || id != 0 || e != api.ErrArg {
			t.Fatalf("In(%d): %d, %d, %v", at, in, id, e)
		}
	}
}

// The document's example.
func TestExample(t *testing.T) {
	w := weave.New(setOf(t, 4, []api.Inlay{{ID: 7, At: 1, Text: "ab"}}))
	left, e := w.Out(1, api.Left)
	right, f := w.Out(1, api.Right)
	if left != 1 || right != 3 || e != api.OK || f != api.OK {
		t.Errorf("Out: %d, %v, and %d, %v", left, e, right, f)
	}
	if at, id, e := w.In(2); at != 1 || id != 7 || e != api.OK {
		t.Errorf("In: %d, %d, %v", at, id, e)
	}
}

// 14.1, 14.2: of no inlay, of one, and of many, at few places and at many.
func TestNew(t *testing.T) {
	for seed := range 600 {
		n := []int{0, 1, 2, 7, 40, 200}[mix(seed, 6)]
		s := setOf(t, n, some(n, mix(seed+1, api.MaxInlays+1), 1, 1000*seed))
		hold(t, weave.New(s), wovenOf(s))
	}
	for n := range 20 {
		s := setOf(t, n, nil)
		hold(t, weave.New(s), wovenOf(s))
	}
}

// 14.1: each way in which up to three inlays of one or two runes stand in a short buffer.
func TestNewSmall(t *testing.T) {
	for n := range 4 {
		for ways := range (2*n + 2) * (2*n + 2) * (2*n + 2) {
			var l []api.Inlay
			for rest := ways; rest > 0; rest /= 2*n + 2 {
				way := rest % (2*n + 2)
				l = append(l, api.Inlay{ID: 1 + len(l), At: way / 2, Text: "ab"[way%2:]})
			}
			s := setOf(t, n, l)
			hold(t, weave.New(s), wovenOf(s))
		}
	}
}

// 14.1: inlays stand in the set's order, whatever their biases are.
func TestOrderOfInlays(t *testing.T) {
	w := weave.New(setOf(t, 1, []api.Inlay{{ID: 4, At: 1, Bias: api.Left, Text: "a"}, {ID: 3, At: 1, Bias: api.Right, Text: "bc"}, {ID: 9, At: 1, Bias: api.Right, Key: -1, Text: "def"}}))
	if want := []weave.Piece{{N: 1}, {ID: 9, N: 3}, {ID: 3, N: 2}, {ID: 4, N: 1}}; !same(w, want) {
		t.Errorf("Pieces: %v", w.Pieces())
	}
}

// 14.1, 14.2, 14.3: the longest buffer.
func TestLongBuffer(t *testing.T) {
	const end = api.MaxInt
	long := strings.Repeat("a", api.MaxInlay)
	s := setOf(t, end, []api.Inlay{{ID: 1, Text: "ab"}, {ID: 2, At: end / 2, Text: "c"}, {ID: 3, At: end, Text: long}})
	w := weave.New(s)
	if n, m := w.Sizes(); n != end || m != end+43 {
		t.Errorf("Sizes: %d, %d", n, m)
	}
	if want := []weave.Piece{{ID: 1, N: 2}, {N: end / 2}, {ID: 2, N: 1}, {N: end / 2}, {ID: 3, N: api.MaxInlay}}; !same(w, want) {
		t.Errorf("Pieces: %v", w.Pieces())
	}
	for _, c := range [][3]int{{end/2 - 1, api.Left, end/2 + 1}, {end / 2, api.Left, end/2 + 2}, {end / 2, api.Right, end/2 + 3}, {end, api.Left, end + 3}, {end, api.Right, end + 43}} {
		if n, e := w.Out(c[0], c[1]); n != c[2] || e != api.OK {
			t.Errorf("Out%v: %d, %v", c, n, e)
		}
	}
	for _, c := range [][3]int{{end / 2, end/2 - 2, 0}, {end + 3, end, 0}, {end + 4, end, 3}, {end + 43, end, 0}} {
		if at, id, e := w.In(c[0]); at != c[1] || id != c[2] || e != api.OK {
			t.Errorf("In%v: %d, %d, %v", c, at, id, e)
		}
	}
	holdWrong(t, w, end, end+43)
	u, e := w.Update(span(1, end), span(1, 1), setOf(t, 1, nil))
	if want := []weave.Piece{{ID: 1, N: 2}, {N: 1}}; e != api.OK || !same(u, want) {
		t.Errorf("Update: %v, %v", e, u.Pieces())
	}
	u, e = u.Update(span(1, 1), span(1, end), s)
	if e != api.OK || !same(u, w.Pieces()) {
		t.Errorf("Update back: %v, %v", e, u.Pieces())
	}
}

// 14.3: of a weave and any set, each span that may be turned.
func TestUpdateEverySpan(t *testing.T) {
	for seed := range 60 {
		n, m := mix(seed, 8), mix(seed+1, 8)
		s, u := setOf(t, n, some(n, mix(seed+2, 9), 1, 1000*seed)), setOf(t, m, some(m, mix(seed+3, 9), 5, 2000*seed+1))
		w := weave.New(s)
		for from := range min(n, m) + 1 {
			for behind := range min(n, m) - from + 1 {
				old, now := span(from, n-behind), span(from, m-behind)
				v, e := w.Update(old, now, u)
				if e != api.OK {
					t.Fatalf("Update(%v, %v): %v", old, now, e)
				}
				hold(t, v, wovenOf(s).update(old, now, wovenOf(u)))
			}
		}
		hold(t, w, wovenOf(s))
	}
}

// 14.3: weaves that are updated again and again by any sets, so that they grow; those that they were made of stay.
func TestUpdateAgain(t *testing.T) {
	weaves, texts := []*weave.Weave{weave.New(nil)}, []woven{wovenOf(nil)}
	tall := 0
	for k := range 500 {
		pick := len(weaves) - 1 - mix(k, min(3, len(weaves)))
		w, x := weaves[pick], texts[pick]
		n := len(x) - 1
		from := mix(k+1, n+1)
		old := span(from, from+mix(k+2, min(n-from, 3)+1))
		now := span(from, from+mix(k+3, 6))
		m := n - old.To + now.To
		l := some(m, 30, 1+100*k, 1000*k)
		for i := range l {
			if i%2 == 0 {
				l[i].At = now.From + i%(now.To-now.From+1)
			}
		}
		s := setOf(t, m, l)
		u, e := w.Update(old, now, s)
		if e != api.OK {
			t.Fatalf("step %d: Update(%v, %v): %v", k, old, now, e)
		}
		y := x.update(old, now, wovenOf(s))
		hold(t, u, y)
		weaves, texts = append(weaves, u), append(texts, y)
		tall = max(tall, u.Height())
	}
	for i, w := range weaves {
		if !same(w, texts[i].pieces()) {
			t.Fatalf("weave %d: %v, not %v", i, w.Pieces(), texts[i].pieces())
		}
	}
	if tall < 4 {
		t.Errorf("the tallest one has a height of %d", tall)
	}
}

// 14.3: inlays at both ends of what is turned go, and those of the set come, also where nothing stands between.
func TestUpdateEnds(t *testing.T) {
	w := weave.New(setOf(t, 3, []api.Inlay{{ID: 1, At: 0, Text: "a"}, {ID: 2, At: 1, Text: "b"}, {ID: 3, At: 2, Text: "c"}, {ID: 4, At: 3, Text: "d"}}))
	s := setOf(t, 3, []api.Inlay{{ID: 5, At: 0, Text: "ee"}, {ID: 6, At: 1, Text: "ff"}, {ID: 7, At: 2, Text: "gg"}, {ID: 8, At: 3, Text: "hh"}})
	for _, c := range []struct {
		from, to int
		want     []int // the inlays' IDs
	}{
		{0, 0, []int{5, 2, 3, 4}}, {1, 1, []int{1, 6, 3, 4}}, {3, 3, []int{1, 2, 3, 8}}, {0, 1, []int{5, 6, 3, 4}}, {1, 2, []int{1, 6, 7, 4}}, {2, 3, []int{1, 2, 7, 8}}, {0, 3, []int{5, 6, 7, 8}},
	} {
		u, e := w.Update(span(c.from, c.to), span(c.from, c.to), s)
		if e != api.OK {
			t.Fatal(e)
		}
		var want []weave.Piece
		for at, id := range c.want {
			if at > 0 {
				want = append(want, weave.Piece{N: 1})
			}
			want = append(want, weave.Piece{ID: id, N: 1 + id/5})
		}
		if !same(u, want) {
			t.Errorf("Update(%d, %d): %v, not %v", c.from, c.to, u.Pieces(), want)
		}
	}
}

// 14.3, R4: what is no span, here or there, and spans that don't fit.
func TestUpdateErrors(t *testing.T) {
	w, s := weave.New(setOf(t, 5, []api.Inlay{{ID: 1, At: 2, Text: "a"}})), setOf(t, 7, []api.Inlay{{ID: 2, At: 4, Text: "b"}})
	for i, c := range []struct {
		old, now api.Span
		e        api.Errno
	}{
		{span(0, 5), span(0, 7), api.OK},
		{span(5, 5), span(5, 7), api.OK},
		{span(0, 0), span(0, 2), api.OK},
		{span(3, 4), span(3, 6), api.OK},
		{span(-1, 5), span(-1, 7), api.ErrArg},
		{span(-1, 0), span(-1, 2), api.ErrArg},
		{span(-2, -2), span(-2, 0), api.ErrArg},
		{span(0, 6), span(0, 8), api.ErrArg},
		{span(6, 6), span(6, 8), api.ErrArg},
		{span(6, 5), span(6, 7), api.ErrArg},
		{span(3, 2), span(3, 4), api.ErrArg},
		{span(4, 0), span(4, 2), api.ErrArg},
		{span(2, 3), span(1, 5), api.ErrArg},
		{span(1, 3), span(2, 5), api.ErrArg},
		{span(2, 2), span(2, 3), api.ErrArg},
		{span(2, 2), span(2, 5), api.ErrArg},
		{span(2, 3), span(2, 4), api.ErrArg},
		{span(0, 5), span(0, 5), api.ErrArg},
		{span(math.MinInt, math.MaxInt), span(math.MinInt, math.MaxInt), api.ErrArg},
		{span(0, math.MinInt), span(0, math.MinInt+2), api.ErrArg},
		{span(0, math.MaxInt-2), span(0, math.MaxInt), api.ErrArg},
		{span(math.MaxInt, math.MinInt), span(math.MaxInt, math.MinInt+2), api.ErrArg},
	} {
		u, e := w.Update(c.old, c.now, s)
		if e != c.e || (u == nil) != (e != api.OK) {
			t.Errorf("%d: Update(%v, %v): %v, %v", i, c.old, c.now, u, e)
		}
	}
	if u, e := w.Update(span(0, 5), span(0, 0), nil); e != api.OK || len(u.Pieces()) != 0 {
		t.Errorf("Update by nil: %v, %v", u, e)
	}
	if u, e := w.Update(span(0, 5), span(0, 5), nil); u != nil || e != api.ErrArg {
		t.Errorf("Update by nil: %v, %v", u, e)
	}
	for i, c := range []struct {
		n        int
		old, now api.Span
		e        api.Errno
	}{
		{5, span(1, 3), span(1, 3), api.OK},
		{5, span(1, 3), span(1, 2), api.ErrArg},
		{3, span(3, 5), span(3, 3), api.OK},
		{3, span(2, 4), span(2, 2), api.OK},
		{3, span(3, 4), span(3, 2), api.ErrArg},
		{3, span(5, 5), span(5, 3), api.ErrArg},
		{3, span(0, 1), span(0, -1), api.ErrArg},
		{3, span(4, 5), span(4, 3), api.ErrArg},
	} {
		if u, e := w.Update(c.old, c.now, setOf(t, c.n, nil)); e != c.e || (u == nil) != (e != api.OK) {
			t.Errorf("%d: Update(%v, %v) by %d runes: %v, %v", i, c.old, c.now, c.n, u, e)
		}
	}
	hold(t, w, woven{nil, nil, {{ID: 1, N: 1}}, nil, nil, nil})
}

// 14.3: more pieces than a tree has room for.
func TestUpdateFull(t *testing.T) {
	const n = 600
	w := weave.New(setOf(t, n, nil))
	for at := range n {
		u, e := w.Update(span(at, at), span(at, at), setOf(t, n, many(at, 1+at)))
		pieces := (at+1)*api.MaxInlays + at + 1 // a plain one behind each place
		if (e == api.OK) != (pieces <= tree.Most) {
			t.Fatalf("Update with %d pieces: %v", pieces, e)
		}
		if e != api.OK {
			if u != nil || e != api.ErrFull || len(w.Pieces()) != at*(api.MaxInlays+1) {
				t.Errorf("Update with %d pieces: %v, %v", pieces, u != nil, e)
			}
			return
		}
		w = u
	}
	t.Error("there is room for all")
}

// 14.4: there and back; and a place of the woven text is from where its place of the buffer is to the left, up to where that is to the right.
func TestThereAndBack(t *testing.T) {
	for seed := range 100 {
		n := mix(seed, 30)
		w := weave.New(setOf(t, n, some(n, mix(seed+1, 20), 1, 1000*seed)))
		for at := range n + 1 {
			for _, bias := range []int{api.Left, api.Right} {
				out, e := w.Out(at, bias)
				in, id, f := w.In(out)
				if in != at || id != 0 || e != api.OK || f != api.OK {
					t.Fatalf("Out(%d, %d): %d, In: %d, %d", at, bias, out, in, id)
				}
			}
		}
		_, m := w.Sizes()
		for at := range m + 1 {
			in, _, _ := w.In(at)
			left, _ := w.Out(in, api.Left)
			right, _ := w.Out(in, api.Right)
			if at < left || at > right {
				t.Fatalf("In(%d): %d, Out: %d to %d", at, in, left, right)
			}
		}
	}
}

// patchOf is a normal patch of a text of n runes.
func patchOf(n, seed int) []patch.Change {
	var ends []int
	for i := range 2 * mix(seed, 4) {
		ends = append(ends, mix(seed+i+1, n+1))
	}
	slices.Sort(ends)
	var l []api.Edit
	for i := 0; i < len(ends); i += 2 {
		l = append(l, api.Edit{From: ends[i], To: ends[i+1], Text: strings.Repeat("x", mix(seed+i+20, 4))})
	}
	return patch.Of(l)
}

// 14.5: a set that is shifted by edits, in which inlays go and come between the first edit and the last one.
func TestUpdateIsNew(t *testing.T) {
	for seed := range 1000 {
		n := mix(seed, 40)
		s := setOf(t, n, some(n, mix(seed+1, 30), 1, 1000*seed))
		p := patchOf(n, 100*seed)
		if len(p) == 0 {
			at := mix(seed+2, n+1)
			p = []patch.Change{{Old: span(at, at), New: span(at, at+1)}}
		}
		old, now := span(p[0].Old.From, p[len(p)-1].Old.To), span(p[0].New.From, p[len(p)-1].New.To)
		u, e := s.Shift(p)
		if e != api.OK {
			t.Fatal(e)
		}
		var remove []int
		for i, x := range u.Within(now.From, now.To) {
			if mix(seed+i, 2) == 0 {
				remove = append(remove, x.ID)
			}
		}
		add := some(now.To-now.From, mix(seed+3, 9), 100, seed)
		for i := range add {
			add[i].At += now.From
		}
		u, e = u.Splice(remove, add)
		if e != api.OK {
			t.Fatal(e)
		}
		w, e := weave.New(s).Update(old, now, u)
		if e != api.OK || !same(w, weave.New(u).Pieces()) {
			t.Fatalf("Update(%v, %v): %v, %v, not %v", old, now, e, w.Pieces(), weave.New(u).Pieces())
		}
		hold(t, w, wovenOf(u))
	}
}

// A nil weave, one that nobody made, and that of a nil set are of an empty buffer.
func TestNil(t *testing.T) {
	s := setOf(t, 3, []api.Inlay{{ID: 1, At: 0, Text: "a"}, {ID: 2, At: 3, Text: "b"}})
	var none *weave.Weave
	if len(none.Pieces()) > 0 || none.Height() != 0 || none.Visits(0) != 0 {
		t.Errorf("%v, %d, %d", none.Pieces(), none.Height(), none.Visits(0))
	}
	if n, m := none.Sizes(); n != 0 || m != 0 {
		t.Errorf("Sizes: %d, %d", n, m)
	}
	for _, bias := range []int{api.Left, api.Right} {
		if n, e := none.Out(0, bias); n != 0 || e != api.OK {
			t.Errorf("Out: %d, %v", n, e)
		}
	}
	if n, id, e := none.In(0); n != 0 || id != 0 || e != api.OK {
		t.Errorf("In: %d, %d, %v", n, id, e)
	}
	holdWrong(t, none, 0, 0)
	for _, w := range []*weave.Weave{none, {}, weave.New(nil), weave.New(setOf(t, 0, nil))} {
		u, e := w.Update(span(0, 0), span(0, 3), s)
		if e != api.OK {
			t.Fatal(e)
		}
		hold(t, u, wovenOf(s))
		for _, c := range [][2]api.Span{{span(0, 1), span(0, 4)}, {span(0, 0), span(0, 2)}, {span(1, 1), span(1, 4)}, {span(-1, 0), span(-1, 3)}} {
			if u, e := w.Update(c[0], c[1], s); u != nil || e != api.ErrArg {
				t.Errorf("Update%v: %v, %v", c, u, e)
			}
		}
		u, e = w.Update(span(0, 0), span(0, 0), nil)
		if e != api.OK {
			t.Fatal(e)
		}
		hold(t, u, woven{nil})
	}
}

// R3: what is handed out is not shared with the weave, nor with another answer.
func TestPiecesAreNotShared(t *testing.T) {
	s := setOf(t, 9, some(9, 20, 1, 1))
	w := weave.New(s)
	one, two := w.Pieces(), w.Pieces()
	clear(one[:cap(one)])
	if !slices.Equal(two, wovenOf(s).pieces()) {
		t.Errorf("two answers share: %v", two)
	}
	hold(t, w, wovenOf(s))
}
