package window_test

import (
	"math"
	"slices"
	"strings"
	"testing"

	"bodkin/api"
	"bodkin/inlays"
	"bodkin/rope"
	"bodkin/source"
	"bodkin/window"
)

// mix is a number from 0 to below n that is hard to foresee and ever the same.
func mix(seed, n int) int {
	x := uint64(seed)*0x9e3779b97f4a7c15 + 0x632be59bd9b4e019
	x ^= x >> 29
	x *= 0xbf58476d1ce4e5b9
	x ^= x >> 32
	return int(x % uint64(n))
}

// span is the places from one on, up to another one.
func span(from, to int) api.Span { return api.Span{From: from, To: to} }

// list are spans, told by their ends.
func list(ends ...int) []api.Span {
	var l []api.Span
	for i := 0; i < len(ends); i += 2 {
		l = append(l, span(ends[i], ends[i+1]))
	}
	return l
}

// allHidden are all hidden spans that are right for what is behind a place of n runes.
func allHidden(from, n int) [][]api.Span {
	all := [][]api.Span{nil}
	for a := from; a < n; a++ {
		for b := a + 1; b <= n; b++ {
			for _, l := range allHidden(b, n) {
				all = append(all, append(list(a, b), l...))
			}
		}
	}
	return all
}

// someHidden are hidden spans that are right for n runes.
func someHidden(seed, n int) []api.Span {
	var l []api.Span
	for at := mix(seed, 4); at < n; {
		to := min(at+1+mix(seed+at, 9), n)
		l = append(l, span(at, to))
		at = to + mix(seed+at+50, 4)
	}
	return l
}

// across tells whether one of some spans is on both sides of a place.
func across(l []api.Span, at int) bool {
	return slices.ContainsFunc(l, func(x api.Span) bool { return x.From < at && at < x.To })
}

// textOf is a text of a buffer, inlays and hidden spans.
func textOf(t *testing.T, s string, l []api.Inlay, hidden []api.Span) source.Text {
	t.Helper()
	r, e := rope.New(s)
	if e != api.OK {
		t.Fatalf("rope.New: %v", e)
	}
	in, e := inlays.New(r.Runes(), l)
	if e != api.OK {
		t.Fatalf("inlays.New(%d, %v): %v", r.Runes(), l, e)
	}
	return source.Text{Rope: r, Inlays: in, Hidden: hidden}
}

// The example of the document.
func TestExample(t *testing.T) {
	old, now := window.Widen(span(3, 4), span(3, 6), list(1, 5), nil)
	if old != span(1, 5) || now != span(1, 7) {
		t.Errorf("Widen: %v, %v", old, now)
	}
	old, now = window.Widen(span(3, 4), span(3, 4), list(1, 5), list(1, 5))
	if old != span(1, 5) || now != span(1, 5) {
		t.Errorf("Widen of what is as it was: %v, %v", old, now)
	}
}

// 27.1: what fits buffers, of all small spans and buffers.
func TestFits(t *testing.T) {
	places := []int{-1, 0, 1, 2, 3}
	var spans []api.Span
	for _, a := range places {
		for _, b := range places {
			spans = append(spans, span(a, b))
		}
	}
	in := func(x api.Span, n int) bool { return x.From >= 0 && x.To >= x.From && x.To <= n }
	for _, old := range spans {
		for _, now := range spans {
			for _, n := range places {
				for _, m := range places {
					want := in(old, n) && in(now, m) && old.From == now.From && n-old.To == m-now.To
					if window.Fits(old, now, n, m) != want {
						t.Errorf("Fits(%v, %v, %d, %d) is not %v", old, now, n, m, want)
					}
				}
			}
		}
	}
}

// 27.1: numbers as great as they may be.
func TestFitsExtremes(t *testing.T) {
	few, most := math.MinInt, math.MaxInt
	if !window.Fits(span(most, most), span(most, most), most, most) || !window.Fits(span(0, most), span(0, 0), most, 0) {
		t.Error("great buffers do not fit")
	}
	if window.Fits(span(0, few), span(0, 0), 0, few) || window.Fits(span(0, 0), span(0, 0), few, few) || window.Fits(span(few, few), span(few, few), 0, 0) || window.Fits(span(few, 0), span(few, 0), most, most) || window.Fits(span(0, most), span(0, few), most, few) {
		t.Error("what is no span fits")
	}
}

// holdWide tells what is wrong with what was turned, widened: it goes on at either end to the nearest place that nothing hidden is on both sides of, by the words of the document.
func holdWide(t *testing.T, old, now api.Span, was, is []api.Span, n, m int) {
	t.Helper()
	a, b := window.Widen(old, now, was, is)
	ahead, behind := 0, 0
	for across(was, old.From-ahead) || across(is, now.From-ahead) {
		ahead++
	}
	for across(was, old.To+behind) || across(is, now.To+behind) {
		behind++
	}
	if a != span(old.From-ahead, old.To+behind) || b != span(now.From-ahead, now.To+behind) {
		t.Fatalf("Widen(%v, %v, %v, %v): %v, %v", old, now, was, is, a, b)
	}
	// 27.3: it is the same, widened again; and it fits the buffers.
	if c, d := window.Widen(a, b, was, is); c != a || d != b {
		t.Fatalf("Widen(%v, %v, %v, %v), widened again: %v, %v", old, now, was, is, c, d)
	}
	if !window.Fits(a, b, n, m) {
		t.Fatalf("Widen(%v, %v, %v, %v): %v, %v fit no buffers of %d, %d", old, now, was, is, a, b, n, m)
	}
}

// turned are all pairs of spans that fit buffers of n and m runes.
func turned(n, m int) [][2]api.Span {
	var all [][2]api.Span
	for from := 0; from <= min(n, m); from++ {
		for behind := 0; behind <= min(n, m)-from; behind++ {
			all = append(all, [2]api.Span{span(from, n-behind), span(from, m-behind)})
		}
	}
	return all
}

// 27.1, 27.3: whatever may be turned in small buffers, whatever is hidden in them.
func TestWiden(t *testing.T) {
	for n := range 5 {
		for m := range 5 {
			for _, was := range allHidden(0, n) {
				for _, is := range allHidden(0, m) {
					for _, x := range turned(n, m) {
						holdWide(t, x[0], x[1], was, is, n, m)
					}
				}
			}
		}
	}
}

// 27.1, 27.3: longer buffers, in which widening goes from span to span, here and there in turn.
func TestWidenLong(t *testing.T) {
	for seed := range 3000 {
		n := 20 + mix(seed, 60)
		from := mix(seed+1, n)
		old := span(from, from+mix(seed+2, n-from+1))
		now := span(from, from+mix(seed+3, 20))
		m := n - old.To + now.To
		holdWide(t, old, now, someHidden(seed+7, n), someHidden(seed+9000, m), n, m)
	}
}

// 27.1: each span of a long chain, here and there, is gone to.
func TestWidenChain(t *testing.T) {
	var was, is []api.Span
	for at := 0; at < 400; at += 2 {
		was = append(was, span(at, at+2))
		is = append(is, span(at+1, at+3))
	}
	for _, at := range []int{1, 200, 399} {
		old, now := window.Widen(span(at, at), span(at, at), was, is)
		if old != span(0, 401) || now != span(0, 401) {
			t.Errorf("from %d: %v, %v", at, old, now)
		}
	}
	old, now := window.Widen(span(0, 1), span(0, 1), was, is[1:])
	if old != span(0, 2) || now != span(0, 2) {
		t.Errorf("from 0: %v, %v", old, now)
	}
}

// 27.1: an end at a hidden span's end stays, though another span only touches it.
func TestWidenTouching(t *testing.T) {
	old, now := window.Widen(span(3, 5), span(3, 7), list(1, 3, 3, 5, 5, 8), list(0, 3, 3, 7, 7, 9))
	if old != span(3, 5) || now != span(3, 7) {
		t.Errorf("%v, %v", old, now)
	}
}

// Rules: of what fits nothing, and of spans that are right for no buffer, a call ends; what it is given stays as it was.
func TestWidenWrong(t *testing.T) {
	few, most := math.MinInt, math.MaxInt
	places := []int{few, -1, 0, 5, most}
	var spans []api.Span
	for _, a := range places {
		for _, b := range places {
			spans = append(spans, span(a, b))
		}
	}
	for _, old := range spans {
		for _, now := range spans {
			window.Widen(old, now, spans, list(few, 5, -1, most))
			window.Widen(old, now, list(-1, most), list(few, 5))
			window.Widen(old, now, nil, spans)
		}
	}
	// These two go round for ever, if nothing ends them.
	window.Widen(span(0, 5), span(0, 10), list(-1, most), list(few, 5))
}

// R2, R3: lists without a span are alike, and lists stay as they were, spare room too.
func TestWidenKeeps(t *testing.T) {
	was, is := list(1, 5, 6, 8), list(2, 9, 20, 30)
	old, now := window.Widen(span(4, 7), span(4, 8), was[:1], is[:1])
	if old != span(1, 8) || now != span(1, 9) {
		t.Errorf("%v, %v", old, now)
	}
	if !slices.Equal(was, list(1, 5, 6, 8)) || !slices.Equal(is, list(2, 9, 20, 30)) {
		t.Errorf("the spans are %v, %v", was, is)
	}
	old, now = window.Widen(span(4, 7), span(4, 8), nil, []api.Span{})
	if old != span(4, 7) || now != span(4, 8) {
		t.Errorf("of nothing hidden: %v, %v", old, now)
	}
}

// lineEnds are where the line of a place begins and ends, by the words of the document.
func lineEnds(x source.Text, at int) (int, int) {
	runes := []rune(x.Rope.Text())
	shown := func(k int) bool {
		return runes[k] == '\n' && !slices.ContainsFunc(x.Hidden, func(h api.Span) bool { return h.From <= k && k < h.To })
	}
	from := 0
	for k := range at {
		if shown(k) {
			from = k + 1
		}
	}
	to := from
	for to < len(runes) && !shown(to) {
		to++
	}
	return from, to
}

// holdEnds tells what is wrong with the ends of the lines of all places of a text that is right, and of some that it has not.
func holdEnds(t *testing.T, x source.Text) {
	t.Helper()
	n := x.Rope.Runes()
	all, _ := source.All(x)
	for at := range n + 1 {
		from, to := lineEnds(x, at)
		a, e := window.Start(x, at)
		b, f := window.End(x, at)
		if a != from || b != to || e != api.OK || f != api.OK {
			t.Fatalf("%q, %v: of %d: %d, %v, %d, %v, not %d, %d", x.Rope.Text(), x.Hidden, at, a, e, b, f, from, to)
		}
		// 27.4: they are those of a line in which the place is.
		if a > at || at > b || !slices.ContainsFunc(all, func(l source.Line) bool { return l.From == a && l.To == b }) {
			t.Fatalf("%q, %v: of %d: %d, %d are those of no line", x.Rope.Text(), x.Hidden, at, a, b)
		}
	}
	for _, at := range []int{-1, n + 1, math.MinInt, math.MaxInt} {
		a, e := window.Start(x, at)
		b, f := window.End(x, at)
		if a != 0 || b != 0 || e != api.ErrArg || f != api.ErrArg {
			t.Fatalf("%q, %v: of %d: %d, %v, %d, %v", x.Rope.Text(), x.Hidden, at, a, e, b, f)
		}
	}
}

// allTexts are all texts of n runes, each an a or a break.
func allTexts(n int) []string {
	all := []string{""}
	for range n {
		var more []string
		for _, s := range all {
			more = append(more, s+"a", s+"\n")
		}
		all = more
	}
	return all
}

// 27.2, 27.4: all small texts, whatever is hidden in them.
func TestLineEnds(t *testing.T) {
	for n := range 6 {
		for _, s := range allTexts(n) {
			for _, hidden := range allHidden(0, n) {
				holdEnds(t, textOf(t, s, nil, hidden))
			}
		}
	}
}

// 27.2, 27.4: longer texts with inlays, of runes of all sizes, and bytes that are none.
func TestLineEndsLong(t *testing.T) {
	some := []string{"a", "\n", "b c", "\u4e00", "\t", "\xff", "\n\n", "\U0001f600", strings.Repeat("x", 40)}
	for seed := range 150 {
		var b strings.Builder
		for k := range 10 + mix(seed, 50) {
			b.WriteString(some[mix(seed*100+k, len(some))])
		}
		n := len([]rune(b.String()))
		var l []api.Inlay
		for id := range 6 {
			l = append(l, api.Inlay{ID: id + 1, At: mix(seed+id, n+1), Text: "in"})
		}
		holdEnds(t, textOf(t, b.String(), l, someHidden(seed+3, n)))
	}
}

// 27.2: as many breaks as a text may have, most of them hidden.
func TestLineEndsMost(t *testing.T) {
	x := textOf(t, strings.Repeat("\n", api.MaxText), nil, list(10, 9000, 9000, 19000))
	for at, want := range map[int][2]int{0: {0, 0}, 9: {9, 9}, 10: {10, 19000}, 5000: {10, 19000}, 9000: {10, 19000}, 19000: {10, 19000}, 19001: {19001, 19001}, api.MaxText: {api.MaxText, api.MaxText}} {
		a, e := window.Start(x, at)
		b, f := window.End(x, at)
		if [2]int{a, b} != want || e != api.OK || f != api.OK {
			t.Errorf("of %d: %d, %v, %d, %v", at, a, e, b, f)
		}
	}
}

// 27.2: what is wrong with a text is told ahead of what is wrong with a place.
func TestLineEndsWrong(t *testing.T) {
	other, _ := inlays.New(4, nil)
	right := textOf(t, "a\nb", nil, nil)
	for _, x := range []source.Text{
		{Rope: right.Rope, Inlays: other},
		{Rope: right.Rope},
		{Rope: right.Rope, Inlays: right.Inlays, Hidden: list(2, 2)},
		{Rope: right.Rope, Inlays: right.Inlays, Hidden: list(0, 2, 1, 3)},
		{Rope: right.Rope, Inlays: right.Inlays, Hidden: list(-1, 2)},
		{Rope: right.Rope, Inlays: right.Inlays, Hidden: list(2, 4)},
		{Hidden: list(0, 1)},
	} {
		for _, at := range []int{-1, 0, 1, 9} {
			a, e := window.Start(x, at)
			b, f := window.End(x, at)
			if a != 0 || b != 0 || e != api.ErrForm || f != api.ErrForm {
				t.Errorf("%v, of %d: %d, %v, %d, %v", x, at, a, e, b, f)
			}
		}
	}
}

// 27.2: a text that has nothing has one line; it is no place beside 0 that has it.
func TestLineEndsNothing(t *testing.T) {
	holdEnds(t, source.Text{})
	holdEnds(t, textOf(t, "", []api.Inlay{{ID: 1, Text: "x"}}, []api.Span{}))
}

// R3, R6: a text's hidden spans stay as they were, spare room too, and the same is told again.
func TestLineEndsKeep(t *testing.T) {
	hidden := list(1, 3, 7, 8)
	x := textOf(t, "a\nb\nc\n", nil, hidden[:1])
	for range 2 {
		holdEnds(t, x)
	}
	if !slices.Equal(hidden, list(1, 3, 7, 8)) {
		t.Errorf("the hidden spans are %v", hidden)
	}
}
