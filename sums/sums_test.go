package sums_test

import (
	"math"
	"slices"
	"strings"
	"testing"

	"bodkin/api"
	"bodkin/sums"
)

// sum is a text's sum, by the words of the document: of its lines, cut out one by one.
func sum(l []rune) sums.Sum {
	var s sums.Sum
	for _, r := range l {
		s.Bytes += size(r)
	}
	s.Runes = len(l)
	rows := lines(l)
	s.Breaks = len(rows) - 1
	s.First = len(rows[0])
	s.Last = len(rows[len(rows)-1])
	for _, row := range rows {
		s.Longest = max(s.Longest, len(row))
	}
	s.Row = slices.IndexFunc(rows, func(row []rune) bool { return len(row) == s.Longest })
	return s
}

// lines are what stands between the breaks.
func lines(l []rune) [][]rune {
	at := slices.Index(l, '\n')
	if at < 0 {
		return [][]rune{l}
	}
	return append([][]rune{l[:at]}, lines(l[at+1:])...)
}

// size is how many bytes a rune has: three, those of api.Bad, if it has no encoding.
func size(r rune) int {
	switch {
	case r < 0 || r > 0x10ffff || r >= 0xd800 && r <= 0xdfff:
		return 3
	case r < 0x80:
		return 1
	case r < 0x800:
		return 2
	case r < 0x10000:
		return 3
	}
	return 4
}

// texts calls do with every text of at most n of some runes.
func texts(n int, runes []rune, do func([]rune)) {
	var grow func(l []rune)
	grow = func(l []rune) {
		do(l)
		if len(l) == n {
			return
		}
		for _, r := range runes {
			grow(append(slices.Clone(l), r))
		}
	}
	grow(nil)
}

// edges are texts that the document's words single out.
var edges = []string{
	"", "\n", "\n\n", "\n\n\n", "a", "\na", "a\n", "\na\n", "\n\na", "a\n\n", "a\n\nb",
	"ab\nc", "a\nbc", "ab\ncd", "ab\ncd\nef", "a\nbc\nde\nf", "abc\nde\nfgh\nij", "\nab\n\ncd\n",
	"a\r\nb", "\u00e9\n\u4e00\U0001f600\n\ufffd", "\u0301\u0301\u200b", "\u2028\n\u0085\v\f", "a\x00b\n\t",
}

// 3.1
func TestOf(t *testing.T) {
	for _, x := range []struct {
		text string
		want sums.Sum
	}{
		{"", sums.Sum{}},
		{"\n", sums.Sum{Bytes: 1, Runes: 1, Breaks: 1}},
		{"\n\n", sums.Sum{Bytes: 2, Runes: 2, Breaks: 2}},
		{"abc", sums.Sum{Bytes: 3, Runes: 3, First: 3, Last: 3, Longest: 3}},
		{"ab\nc", sums.Sum{Bytes: 4, Runes: 4, Breaks: 1, First: 2, Last: 1, Longest: 2}},
		{"\nab", sums.Sum{Bytes: 3, Runes: 3, Breaks: 1, Last: 2, Longest: 2, Row: 1}},
		{"ab\n", sums.Sum{Bytes: 3, Runes: 3, Breaks: 1, First: 2, Longest: 2}},
		{"ab\ncd\nef", sums.Sum{Bytes: 8, Runes: 8, Breaks: 2, First: 2, Last: 2, Longest: 2}},
		{"a\nbc\nde\nf", sums.Sum{Bytes: 9, Runes: 9, Breaks: 3, First: 1, Last: 1, Longest: 2, Row: 1}},
		{"\u00e9\n\u4e00\U0001f600", sums.Sum{Bytes: 10, Runes: 4, Breaks: 1, First: 1, Last: 2, Longest: 2, Row: 1}},
	} {
		if s := sums.Of([]rune(x.text)); s != x.want {
			t.Errorf("Of(%q): %+v, not %+v", x.text, s, x.want)
		}
	}
	for _, text := range edges {
		if l := []rune(text); sums.Of(l) != sum(l) {
			t.Errorf("Of(%q): %+v, not %+v", text, sums.Of(l), sum(l))
		}
	}
}

// 3.1
func TestOfEveryShortText(t *testing.T) {
	texts(7, []rune{'a', '\n', 0x4e00}, func(l []rune) {
		if s := sums.Of(l); s != sum(l) {
			t.Fatalf("Of(%q): %+v, not %+v", string(l), s, sum(l))
		}
	})
}

// 3.1: each first and last rune of a length of encoding, and runes without one, stands in a line of its own length.
func TestOfRunesOfEachSize(t *testing.T) {
	for _, r := range []rune{
		0, '\t', '\r', 0x7f, 0x80, 0x7ff, 0x800, 0xd7ff, 0xe000, 0xfffd, 0xffff, 0x10000, 0x10ffff,
		-1, math.MinInt32, 0xd800, 0xdbff, 0xdc00, 0xdfff, 0x110000, math.MaxInt32,
	} {
		want := sums.Sum{Bytes: size(r), Runes: 1, First: 1, Last: 1, Longest: 1}
		if s := sums.Of([]rune{r}); s != want {
			t.Errorf("Of(%x): %+v, not %+v", r, s, want)
		}
		l := []rune{'a', '\n', r, r, '\n', r}
		if s := sums.Of(l); s != sum(l) {
			t.Errorf("Of(%x): %+v, not %+v", l, s, sum(l))
		}
	}
}

// 3.1: rows and lines of more than a few runes.
func TestOfLongText(t *testing.T) {
	l := []rune(strings.Repeat("\n", 500) + strings.Repeat("a", 10000) + "\n" + strings.Repeat("b", 10000))
	want := sums.Sum{Bytes: 20501, Runes: 20501, Breaks: 501, Last: 10000, Longest: 10000, Row: 500}
	if s := sums.Of(l); s != want {
		t.Errorf("Of: %+v, not %+v", s, want)
	}
	if p := sums.End(sums.Of(l)); p != (api.Point{Row: 501, Col: 10000}) {
		t.Errorf("End: %+v", p)
	}
}

// 3.1
func TestEnd(t *testing.T) {
	for text, want := range map[string]api.Point{
		"":                     {},
		"abc":                  {Col: 3},
		"\n":                   {Row: 1},
		"abc\n":                {Row: 1},
		"a\nbc":                {Row: 1, Col: 2},
		"abc\n\n\u4e00":        {Row: 2, Col: 1},
		"a\n\n\u0301\u4e00b\n": {Row: 3},
	} {
		if p := sums.End(sums.Of([]rune(text))); p != want {
			t.Errorf("End of %q: %+v, not %+v", text, p, want)
		}
	}
	texts(6, []rune{'a', '\n'}, func(l []rune) {
		rows := lines(l)
		want := api.Point{Row: len(rows) - 1, Col: len(rows[len(rows)-1])}
		if p := sums.End(sums.Of(l)); p != want {
			t.Fatalf("End of %q: %+v, not %+v", string(l), p, want)
		}
	})
}

// 3.2
func TestAddEveryTwoShortTexts(t *testing.T) {
	var all [][]rune
	texts(4, []rune{'a', '\n', -1}, func(l []rune) { all = append(all, l) })
	for _, a := range all {
		for _, b := range all {
			want := sum(slices.Concat(a, b))
			if s := sums.Add(sums.Of(a), sums.Of(b)); s != want {
				t.Fatalf("Add of %x and %x: %+v, not %+v", a, b, s, want)
			}
		}
	}
}

// 3.2: where the longest line stands: in the one, in the other, over the seam; and of several the first.
func TestAddLongest(t *testing.T) {
	for _, x := range []struct {
		a, b         string
		longest, row int
	}{
		{"abc\n", "\nab", 3, 0},
		{"a\nb", "\nabc", 3, 2},
		{"a\nbc", "de\nf", 4, 1},
		{"abc\nd", "\nefg", 3, 0},
		{"abc\nd", "ef\nghi", 3, 0},
		{"a\nb", "cd\nefg", 3, 1},
		{"a\n", "\nbc\nde", 2, 2},
		{"abc", "d\nabcd", 4, 0},
		{"\n", "\n", 0, 0},
		{"\n", "a", 1, 1},
		{"", "\na", 1, 1},
		{"a\nbb", "", 2, 1},
	} {
		s := sums.Add(sums.Of([]rune(x.a)), sums.Of([]rune(x.b)))
		if s.Longest != x.longest || s.Row != x.row {
			t.Errorf("%q and %q: Longest %d, Row %d, not %d, %d", x.a, x.b, s.Longest, s.Row, x.longest, x.row)
		}
	}
}

// 3.3
func TestNothingChangesNothing(t *testing.T) {
	for _, text := range edges {
		s := sums.Of([]rune(text))
		if x := sums.Add(s, sums.Of(nil)); x != s {
			t.Errorf("%q and nothing: %+v, not %+v", text, x, s)
		}
		if x := sums.Add(sums.Of([]rune{}), s); x != s {
			t.Errorf("nothing and %q: %+v, not %+v", text, x, s)
		}
	}
	if x := sums.Add(sums.Sum{}, sums.Sum{}); x != (sums.Sum{}) {
		t.Errorf("nothing and nothing: %+v", x)
	}
}

// three holds each way to cut a text in two or three, in both brackets, against the sum of the whole.
func three(t *testing.T, l []rune) {
	t.Helper()
	want := sum(l)
	for j := range len(l) + 1 {
		back := sums.Of(l[j:])
		if x := sums.Add(sums.Of(l[:j]), back); x != want {
			t.Fatalf("%x at %d: %+v, not %+v", l, j, x, want)
		}
		for i := range j + 1 {
			front, mid := sums.Of(l[:i]), sums.Of(l[i:j])
			if x := sums.Add(sums.Add(front, mid), back); x != want {
				t.Fatalf("%x at %d, then at %d: %+v, not %+v", l, i, j, x, want)
			}
			if x := sums.Add(front, sums.Add(mid, back)); x != want {
				t.Fatalf("%x at %d, at %d first: %+v, not %+v", l, i, j, x, want)
			}
		}
	}
}

// 3.3, 3.4
func TestPieces(t *testing.T) {
	for _, text := range edges {
		three(t, []rune(text))
	}
	three(t, []rune{-1, '\n', 0xd800, 0x110000, '\n', '\n', math.MaxInt32})
	texts(6, []rune{'a', '\n', 0x4e00}, func(l []rune) { three(t, l) })
}

// 3.4: rune by rune, from either end.
func TestRuneByRune(t *testing.T) {
	for _, text := range edges {
		l := []rune(text)
		var fore, back sums.Sum
		for i := range l {
			fore = sums.Add(fore, sums.Of(l[i:i+1]))
			back = sums.Add(sums.Of(l[len(l)-1-i:len(l)-i]), back)
		}
		if want := sum(l); fore != want || back != want {
			t.Errorf("%q: %+v and %+v, not %+v", text, fore, back, want)
		}
	}
}

// R2, R3, R6: no list and an empty one are the same; a list stays as it is, spare room too, and another call tells the same.
func TestListStays(t *testing.T) {
	if a, b := sums.Of(nil), sums.Of([]rune{}); a != b || a != (sums.Sum{}) {
		t.Errorf("Of nothing: %+v, %+v", a, b)
	}
	room := []rune{'a', -1, '\n', 'b', 'c', '\n', 'd'}
	was := slices.Clone(room)
	s := sums.Of(room[:4])
	if x := sums.Of(room[:4]); x != s || s != sum(was[:4]) {
		t.Errorf("Of: %+v, then %+v", s, x)
	}
	if !slices.Equal(room, was) {
		t.Errorf("the list became %x", room)
	}
}

// R1: sums that are no text's are no reason to die.
func TestNoTextsSums(t *testing.T) {
	for _, v := range []int{-1, 1, math.MinInt, math.MaxInt, api.MaxInt} {
		s := sums.Sum{Bytes: v, Runes: v, Breaks: v, First: v, Last: v, Longest: v, Row: v}
		for _, o := range []sums.Sum{{}, s, {Longest: v}, {Breaks: v}, {Row: v}} {
			sums.Add(s, o)
			sums.Add(o, s)
			sums.End(o)
		}
	}
}
