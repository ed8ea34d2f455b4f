package source_test

import (
	"math"
	"slices"
	"strings"
	"testing"

	"bodkin/api"
	"bodkin/cells"
	"bodkin/inlays"
	"bodkin/rope"
	"bodkin/source"
)

// mix is a number from 0 to below n that is hard to foresee and ever the same.
func mix(seed, n int) int {
	x := uint64(seed)*0x9e3779b97f4a7c15 + 0x632be59bd9b4e019
	x ^= x >> 29
	x *= 0xbf58476d1ce4e5b9
	x ^= x >> 32
	return int(x % uint64(n))
}

// span is the places from one on, up to another one.
func span(from, to int) api.Span { return api.Span{From: from, To: to} }

// list are spans, told by their ends.
func list(ends ...int) []api.Span {
	var l []api.Span
	for i := 0; i < len(ends); i += 2 {
		l = append(l, span(ends[i], ends[i+1]))
	}
	return l
}

// textOf is a text of a buffer, inlays and hidden spans.
func textOf(t *testing.T, s string, l []api.Inlay, hidden []api.Span) source.Text {
	t.Helper()
	r, e := rope.New(s)
	if e != api.OK {
		t.Fatalf("rope.New: %v", e)
	}
	in, e := inlays.New(r.Runes(), l)
	if e != api.OK {
		t.Fatalf("inlays.New(%d, %v): %v", r.Runes(), l, e)
	}
	return source.Text{Rope: r, Inlays: in, Hidden: hidden}
}

// hides tells whether the rune at a place is in one of some spans.
func hides(hidden []api.Span, at int) bool {
	return slices.ContainsFunc(hidden, func(x api.Span) bool { return x.From <= at && at < x.To })
}

// linesOf are all lines of a text, by the words of the document.
func linesOf(x source.Text) []source.Line {
	runes := []rune(x.Rope.Text())
	begins := []int{0}
	for at, r := range runes {
		if r == '\n' && !hides(x.Hidden, at) {
			begins = append(begins, at+1)
		}
	}
	var all []source.Line
	for _, from := range begins {
		all = append(all, lineOf(x, runes, from))
	}
	return all
}

// lineOf is what stands in the line from a beginning on, place by place.
func lineOf(x source.Text, runes []rune, from int) source.Line {
	l := source.Line{From: from}
	between := true // something stands between the last rune and what comes
	for at := from; ; {
		for _, in := range x.Inlays.All() {
			if in.At == at {
				l.Parts = append(l.Parts, cells.Part{Kind: 2, At: at, Runes: []rune(in.Text)})
				between = true
			}
		}
		k := slices.IndexFunc(x.Hidden, func(h api.Span) bool { return h.From == at })
		switch {
		case k >= 0:
			l.Parts = append(l.Parts, cells.Part{Kind: 3, At: at})
			at, between = x.Hidden[k].To, true
		case at == len(runes) || runes[at] == '\n':
			l.To = at
			return l
		case between:
			l.Parts = append(l.Parts, cells.Part{Kind: 1, At: at, Runes: []rune{runes[at]}})
			at, between = at+1, false
		default:
			last := &l.Parts[len(l.Parts)-1]
			last.Runes = append(last.Runes, runes[at])
			at++
		}
	}
}

// same tells whether two lines are alike.
func same(a, b source.Line) bool {
	parts := func(p, q cells.Part) bool {
		return p.Kind == q.Kind && p.At == q.At && slices.Equal(p.Runes, q.Runes)
	}
	return a.From == b.From && a.To == b.To && slices.EqualFunc(a.Parts, b.Parts, parts)
}

// zero tells whether a line has nothing.
func zero(l source.Line) bool { return l.Parts == nil && l.From == 0 && l.To == 0 }

// hold tells what is wrong with what is told of a text that is right.
func hold(t *testing.T, x source.Text) {
	t.Helper()
	if e := source.Check(x); e != api.OK {
		t.Fatalf("Check of %q, %v: %v", x.Rope.Text(), x.Hidden, e)
	}
	want := linesOf(x)
	all, e := source.All(x)
	if e != api.OK || !slices.EqualFunc(all, want, same) {
		t.Fatalf("All of %q, %v, %v: %v, %v, not %v", x.Rope.Text(), x.Inlays.All(), x.Hidden, all, e, want)
	}
	n := x.Rope.Runes()
	next := 0
	for at := -2; at <= n+2; at++ {
		l, e := source.At(x, at)
		if next < len(want) && want[next].From == at {
			if e != api.OK || !same(l, want[next]) {
				t.Fatalf("At(%d) of %q, %v: %v, %v, not %v", at, x.Rope.Text(), x.Hidden, l, e, want[next])
			}
			next++
		} else if e != api.ErrArg || !zero(l) {
			t.Fatalf("At(%d) of %q, %v: %v, %v", at, x.Rope.Text(), x.Hidden, l, e)
		}
	}
	for _, at := range []int{math.MinInt, math.MinInt + 1, math.MaxInt} {
		if l, e := source.At(x, at); e != api.ErrArg || !zero(l) {
			t.Fatalf("At(%d): %v, %v", at, l, e)
		}
	}
	holdFollows(t, x, all)
}

// holdFollows tells what is wrong with lines among themselves: 21.2 and 21.3.
func holdFollows(t *testing.T, x source.Text, all []source.Line) {
	t.Helper()
	runes := []rune(x.Rope.Text())
	var shown []rune
	next := 0
	for i, l := range all {
		if l.From != next || l.To < l.From {
			t.Fatalf("line %d of %q, %v: from %d to %d, not from %d", i, x.Rope.Text(), x.Hidden, l.From, l.To, next)
		}
		next = l.To + 1
		size := 0
		for _, p := range l.Parts {
			size += max(len(p.Runes), 1)
			if p.Kind != api.Plain {
				continue
			}
			shown = append(shown, p.Runes...)
			if !slices.Equal(p.Runes, runes[p.At:p.At+len(p.Runes)]) {
				t.Fatalf("line %d of %q: %v", i, x.Rope.Text(), p)
			}
		}
		if source.Size(l) != size {
			t.Fatalf("Size of %v: %d, not %d", l, source.Size(l), size)
		}
		if i+1 < len(all) {
			shown = append(shown, '\n')
		}
	}
	if next != len(runes)+1 {
		t.Fatalf("the last line of %q, %v ends at %d", x.Rope.Text(), x.Hidden, next-1)
	}
	var want []rune
	for at, r := range runes {
		if !hides(x.Hidden, at) {
			want = append(want, r)
		}
	}
	if !slices.Equal(shown, want) {
		t.Fatalf("%q, %v: %q is shown, not %q", x.Rope.Text(), x.Hidden, string(shown), string(want))
	}
}

// The document's example.
func TestExample(t *testing.T) {
	x := textOf(t, "ab\ncd", []api.Inlay{{ID: 1, At: 4, Text: "x"}}, list(1, 4))
	want := source.Line{To: 5, Parts: []cells.Part{
		{Kind: api.Plain, At: 0, Runes: []rune("a")}, {Kind: api.Folded, At: 1}, {Kind: api.Virt, At: 4, Runes: []rune("x")}, {Kind: api.Plain, At: 4, Runes: []rune("d")},
	}}
	if all, e := source.All(x); e != api.OK || len(all) != 1 || !same(all[0], want) {
		t.Errorf("All: %v, %v", all, e)
	}
	hold(t, x)
}

// covers calls do with all ways in which spans of n places are hidden.
func covers(n int, do func([]api.Span)) {
	var grow func(at int, l []api.Span)
	grow = func(at int, l []api.Span) {
		if at == n {
			do(l)
			return
		}
		grow(at+1, l)
		for to := at + 1; to <= n; to++ {
			grow(to, append(slices.Clone(l), span(at, to)))
		}
	}
	grow(0, nil)
}

// 21.1 to 21.3: of short buffers of runes and breaks, with all that may be hidden, and inlays at each choice of places.
func TestAllSmall(t *testing.T) {
	for n := range 5 {
		for breaks := range 1 << n {
			s := []byte("abcd"[:n])
			for at := range s {
				if breaks>>at&1 == 1 {
					s[at] = '\n'
				}
			}
			covers(n, func(hidden []api.Span) {
				for places := range 1 << (n + 1) {
					var l []api.Inlay
					for at := range n + 1 {
						if places>>at&1 == 1 {
							l = append(l, api.Inlay{ID: 9 - at, At: at, Text: "xyz"[:1+at%3]})
						}
					}
					hold(t, textOf(t, string(s), l, hidden))
				}
			})
		}
	}
}

// some is a text of some seed: of at most n runes, with a break in about one of many of them.
func some(t *testing.T, n, many, seed int) source.Text {
	t.Helper()
	n = mix(seed, n+1)
	kinds := []string{"a", "\t", "\u4e00", "\U0001f600", "\xff", "\u0301", " ", "\u2026"}
	var b strings.Builder
	for i := range n {
		if mix(10*seed+i, many) == 0 {
			b.WriteString("\n")
		} else {
			b.WriteString(kinds[mix(20*seed+i, len(kinds))])
		}
	}
	var l []api.Inlay
	for i := range mix(seed+1, api.MaxInlays+1) {
		k := 30*seed + 5*i
		l = append(l, api.Inlay{ID: 1 + i, At: mix(k, n+1), Bias: mix(k+1, 2), Key: mix(k+2, 3), Text: strings.Repeat(kinds[mix(k+3, len(kinds))], 1+mix(k+4, 4))})
	}
	var hidden []api.Span
	for at, k := mix(seed+2, 9), 40*seed; at < n; k += 2 {
		to := min(at+1+mix(k, 20), n)
		hidden = append(hidden, span(at, to))
		at = to + max(mix(k+1, 40)-10, 0)
	}
	if mix(seed+3, 3) == 0 {
		hidden = nil
	}
	return textOf(t, b.String(), l, hidden)
}

// 21.1 to 21.3: of longer buffers, with short lines and long ones.
func TestAllSome(t *testing.T) {
	for seed := range 400 {
		hold(t, some(t, []int{6, 30, 200, 300}[mix(seed, 4)], []int{2, 5, 30, 1000}[mix(seed+1, 4)], 1000*seed))
	}
}

// 21.1: lines of many lengths, with nothing else in them, an inlay or a hidden span anywhere.
func TestLengths(t *testing.T) {
	for _, n := range []int{1, 7, 15, 16, 17, 31, 63, 64, 65, 127, 128, 129, 200} {
		s := strings.Repeat("\u4e00", n)
		for at := range n {
			hold(t, textOf(t, s[:3*at]+"\n"+s[3*at:], nil, nil))
			hold(t, textOf(t, s, []api.Inlay{{ID: 1, At: at, Text: "xy"}}, nil))
			hold(t, textOf(t, s, nil, list(at, at+1)))
			hold(t, textOf(t, s+"\n"+s, nil, list(at, at+n)))
		}
	}
}

// 21.1: the longest buffer: of one line, of the most lines, and of lines of all lengths.
func TestLongest(t *testing.T) {
	var b strings.Builder
	for i := 0; b.Len() < api.MaxText; i++ {
		b.WriteString(strings.Repeat("a", min(i, api.MaxText-b.Len()-1)) + "\n")
	}
	for _, s := range []string{strings.Repeat("a", api.MaxText), strings.Repeat("\n", api.MaxText), b.String()} {
		for _, hidden := range [][]api.Span{nil, list(1, 70, 70, 200, 300, api.MaxText-1), list(0, api.MaxText)} {
			x := textOf(t, s, []api.Inlay{{ID: 1, Text: "x"}, {ID: 2, At: 200, Text: "y"}, {ID: 3, At: api.MaxText, Text: "z"}}, hidden)
			want := linesOf(x)
			all, e := source.All(x)
			if e != api.OK || !slices.EqualFunc(all, want, same) {
				t.Fatalf("All: %d lines, %v, not %d", len(all), e, len(want))
			}
			for i := 0; i < len(want); i += 1 + len(want)/100 {
				if l, e := source.At(x, want[i].From); e != api.OK || !same(l, want[i]) {
					t.Fatalf("At(%d): %v", want[i].From, e)
				}
			}
			if l, e := source.At(x, want[len(want)-1].From); e != api.OK || l.To != api.MaxText {
				t.Fatalf("At of the last line: %d, %v", l.To, e)
			}
		}
	}
}

// Inlays at the ends of what is hidden are shown, those within are not; of one place they stand in the set's order, a part each.
func TestInlaysAtHidden(t *testing.T) {
	l := []api.Inlay{{ID: 5, At: 1, Text: "a"}, {ID: 4, At: 1, Text: "b"}, {ID: 3, At: 1, Key: -1, Bias: api.Right, Text: "c"}, {ID: 2, At: 2, Text: "no"}, {ID: 6, At: 3, Text: "d"}, {ID: 7, At: 4, Text: "no"}, {ID: 8, At: 5, Text: "e\xff"}}
	x := textOf(t, "..\n\n..", l, list(1, 3, 3, 5))
	all, e := source.All(x)
	want := source.Line{To: 6, Parts: []cells.Part{
		{Kind: 1, At: 0, Runes: []rune(".")}, {Kind: 2, At: 1, Runes: []rune("c")}, {Kind: 2, At: 1, Runes: []rune("b")}, {Kind: 2, At: 1, Runes: []rune("a")}, {Kind: 3, At: 1},
		{Kind: 2, At: 3, Runes: []rune("d")}, {Kind: 3, At: 3}, {Kind: 2, At: 5, Runes: []rune{'e', api.Bad}}, {Kind: 1, At: 5, Runes: []rune(".")},
	}}
	if e != api.OK || len(all) != 1 || !same(all[0], want) {
		t.Errorf("All: %v, %v", all, e)
	}
}

// 21.1: inlays at a break are in the line that it ends, those behind it in the next one; so are placeholders.
func TestAtBreaks(t *testing.T) {
	x := textOf(t, "a\n\nb", []api.Inlay{{ID: 1, At: 1, Text: "x"}, {ID: 2, At: 2, Text: "y"}, {ID: 3, At: 3, Text: "z"}}, nil)
	for i, want := range []source.Line{
		{To: 1, Parts: []cells.Part{{Kind: 1, Runes: []rune("a")}, {Kind: 2, At: 1, Runes: []rune("x")}}},
		{From: 2, To: 2, Parts: []cells.Part{{Kind: 2, At: 2, Runes: []rune("y")}}},
		{From: 3, To: 4, Parts: []cells.Part{{Kind: 2, At: 3, Runes: []rune("z")}, {Kind: 1, At: 3, Runes: []rune("b")}}},
	} {
		if l, e := source.At(x, want.From); e != api.OK || !same(l, want) {
			t.Errorf("%d: %v, %v", i, l, e)
		}
	}
	x.Hidden = list(0, 1, 2, 3, 3, 4)
	for i, want := range []source.Line{
		{To: 1, Parts: []cells.Part{{Kind: 3}, {Kind: 2, At: 1, Runes: []rune("x")}}},
		{From: 2, To: 4, Parts: []cells.Part{{Kind: 2, At: 2, Runes: []rune("y")}, {Kind: 3, At: 2}, {Kind: 2, At: 3, Runes: []rune("z")}, {Kind: 3, At: 3}}},
	} {
		if l, e := source.At(x, want.From); e != api.OK || !same(l, want) {
			t.Errorf("hidden, %d: %v, %v", i, l, e)
		}
	}
	if l, e := source.At(x, 3); e != api.ErrArg || !zero(l) {
		t.Errorf("behind a break that is hidden: %v, %v", l, e)
	}
}

// 21.1: sets of another number of runes, and spans that are not right, are told of ahead of a place that is none.
func TestErrors(t *testing.T) {
	right := textOf(t, "ab\ncd\n", nil, nil)
	for i, c := range []struct {
		n      int // of the inlays' set
		hidden []api.Span
		e      api.Errno
	}{
		{6, nil, api.OK},
		{6, []api.Span{}, api.OK},
		{6, list(0, 6), api.OK},
		{6, list(0, 1, 1, 2, 5, 6), api.OK},
		{5, nil, api.ErrForm},
		{7, nil, api.ErrForm},
		{0, nil, api.ErrForm},
		{api.MaxInt, nil, api.ErrForm},
		{7, list(0, 7), api.ErrForm},
		{6, list(0, 7), api.ErrForm},
		{6, list(6, 7), api.ErrForm},
		{6, list(7, 8), api.ErrForm},
		{6, list(-1, 2), api.ErrForm},
		{6, list(-2, -1), api.ErrForm},
		{6, list(2, 2), api.ErrForm},
		{6, list(0, 0), api.ErrForm},
		{6, list(6, 6), api.ErrForm},
		{6, list(3, 2), api.ErrForm},
		{6, list(0, 3, 2, 4), api.ErrForm},
		{6, list(0, 3, 0, 3), api.ErrForm},
		{6, list(4, 6, 0, 2), api.ErrForm},
		{6, list(0, 2, 4, 5, 3, 4), api.ErrForm},
		{6, list(0, 2, 4, 7), api.ErrForm},
		{6, list(0, 2, 3, 3), api.ErrForm},
		{6, list(0, 5, 1, 2), api.ErrForm},
		{6, list(math.MinInt, math.MaxInt), api.ErrForm},
		{6, list(math.MaxInt, math.MinInt), api.ErrForm},
		{6, list(0, math.MaxInt), api.ErrForm},
		{6, list(math.MinInt, 3), api.ErrForm},
	} {
		x := right
		x.Inlays, _ = inlays.New(c.n, nil)
		x.Hidden = c.hidden
		if e := source.Check(x); e != c.e {
			t.Errorf("%d: Check: %v", i, e)
		}
		if l, e := source.All(x); e != c.e || (l == nil) != (e != api.OK) {
			t.Errorf("%d: All: %v, %v", i, l, e)
		}
		if l, e := source.At(x, 0); e != c.e || e != api.OK && !zero(l) {
			t.Errorf("%d: At(0): %v, %v", i, l, e)
		}
		if c.e == api.OK {
			hold(t, x)
		} else if l, e := source.At(x, 1); e != c.e || !zero(l) {
			t.Errorf("%d: At(1): %v, %v", i, l, e)
		}
	}
}

// A text of nothing is that of an empty buffer: it has one line.
func TestNothing(t *testing.T) {
	empty := textOf(t, "", nil, nil)
	for i, x := range []source.Text{{}, {Rope: &rope.Rope{}}, {Inlays: &inlays.Set{}}, {Hidden: []api.Span{}}, empty, {Rope: empty.Rope}} {
		hold(t, x)
		if all, e := source.All(x); e != api.OK || len(all) != 1 || !zero(all[0]) {
			t.Errorf("%d: All: %v, %v", i, all, e)
		}
	}
	for _, hidden := range [][]api.Span{list(0, 0), list(0, 1), list(-1, 0)} {
		if e := source.Check(source.Text{Hidden: hidden}); e != api.ErrForm {
			t.Errorf("Check of %v: %v", hidden, e)
		}
	}
	x := source.Text{Rope: textOf(t, "a", nil, nil).Rope}
	if all, e := source.All(x); e != api.ErrForm || all != nil {
		t.Errorf("All of a rune without inlays for it: %v, %v", all, e)
	}
	x = source.Text{Inlays: textOf(t, "", []api.Inlay{{ID: 1, Text: "x"}}, nil).Inlays}
	hold(t, x)
}

// 21.1: a placeholder is one rune, whatever runes its part has; other parts have theirs.
func TestSize(t *testing.T) {
	l := source.Line{From: -1, To: 99, Parts: []cells.Part{{Kind: api.Plain, Runes: []rune("abc")}, {Kind: api.Folded}, {Kind: api.Folded, Runes: []rune("no")}, {Kind: api.Virt, Runes: []rune("\u4e00\t")}, {Kind: api.Plain}}}
	if n := source.Size(l); n != 7 {
		t.Errorf("Size: %d", n)
	}
	if n := source.Size(source.Line{}); n != 0 {
		t.Errorf("Size of nothing: %d", n)
	}
}

// spoil writes over all memory of lines, spare room too.
func spoil(l []source.Line) {
	for _, x := range l {
		for _, p := range x.Parts {
			room := p.Runes[:cap(p.Runes)]
			for i := range room {
				room[i] = -1
			}
		}
		clear(x.Parts[:cap(x.Parts)])
	}
	clear(l[:cap(l)])
}

// R3: answers share no memory with one another, nor with what is handed in, nor one list of an answer with another one.
func TestNotShared(t *testing.T) {
	for seed := range 30 {
		x := some(t, 200, 10, 77*seed)
		x.Hidden = append(make([]api.Span, 0, len(x.Hidden)+5), x.Hidden...)
		room := slices.Clone(x.Hidden[:cap(x.Hidden)])
		want := linesOf(x)
		one, _ := source.All(x)
		two, _ := source.All(x)
		first, _ := source.At(x, 0)
		spoil(one)
		spoil([]source.Line{first})
		if !slices.EqualFunc(two, want, same) {
			t.Fatal("two answers share")
		}
		hold(t, x)
		if !slices.Equal(room, x.Hidden[:cap(x.Hidden)]) {
			t.Fatal("the hidden spans were changed")
		}
		for i := range two { // each list by itself: the others stay
			for k := range two[i].Parts {
				own := two[i].Parts[k].Runes
				spoil([]source.Line{{Parts: []cells.Part{{Runes: own}}}})
				copy(own, want[i].Parts[k].Runes)
				if !slices.EqualFunc(two, want, same) {
					t.Fatalf("the runes of part %d of line %d are another part's too", k, i)
				}
			}
			own := slices.Clone(two[i].Parts)
			clear(two[i].Parts[:cap(two[i].Parts)])
			copy(two[i].Parts, own)
			if !slices.EqualFunc(two, want, same) {
				t.Fatalf("the parts of line %d are another line's too", i)
			}
		}
	}
}

// R6: asked again it tells the same.
func TestAgain(t *testing.T) {
	x := some(t, 300, 9, 4242)
	one, _ := source.All(x)
	two, e := source.All(x)
	if e != api.OK || !slices.EqualFunc(one, two, same) {
		t.Errorf("All: %v", e)
	}
}
