package lines_test

import (
	"math"
	"strings"
	"testing"

	"bodkin/api"
	"bodkin/lines"
	"bodkin/rope"
)

// texts are some whose rows are none, empty, one behind the other, and longer than a rope's pieces.
func texts() []string {
	l := []string{
		"", "a", "\n", "\n\n", "\n\n\n", "ab\nc", "ab\n", "\nab", "\n\na\n\n", "ab\n\n\u4e00cd\n", "a\r\nb", "\u2028\u0085\n\v\f",
		"\u00e9\u4e00\U0001f600\n\x00\t\ufffd", "a\xff\n\xe4\xb8\nb",
		strings.Repeat("a", 15) + "\n" + strings.Repeat("\u4e00", 16) + "\n" + strings.Repeat("b", 17),
		strings.Repeat("\n", 16), strings.Repeat("\n", 17), strings.Repeat("\n", 100),
		strings.Repeat("ab\u4e00\n", 30), strings.Repeat("\nabcdefghijklmno", 9), strings.Repeat("a", 200),
		strings.Repeat("a", 100) + "\n\n" + strings.Repeat("b", 100) + "\n",
	}
	for n := range 40 { // breaks at ever other places of pieces
		l = append(l, strings.Repeat(strings.Repeat("\u4e00", n)+"\n", 5))
	}
	return l
}

// of is a text's rope.
func of(t *testing.T, text string) *rope.Rope {
	t.Helper()
	r, e := rope.New(text)
	if e != api.OK {
		t.Fatalf("New(%q): %v", text, e)
	}
	return r
}

// rows are a text's rows, cut out one by one.
func rows(text string) [][]rune {
	var l [][]rune
	for _, s := range strings.Split(text, "\n") {
		l = append(l, []rune(s))
	}
	return l
}

// beyond are numbers that are neither a row nor a place of a text.
func beyond(n int) []int { return []int{-1, -2, math.MinInt, n, n + 1, math.MaxInt} }

// 8.1
func TestRowsSpansAndTexts(t *testing.T) {
	for _, text := range texts() {
		r, l := of(t, text), rows(text)
		if n := lines.Rows(r); n != len(l) {
			t.Fatalf("Rows of %q: %d, not %d", text, n, len(l))
		}
		from := 0
		for row, own := range l {
			want := api.Span{From: from, To: from + len(own)}
			if s, e := lines.Span(r, row); s != want || e != api.OK {
				t.Fatalf("Span(%d) of %q: %v, %v, not %v", row, text, s, e, want)
			}
			if s, e := lines.Text(r, row); s != string(own) || e != api.OK {
				t.Fatalf("Text(%d) of %q: %q, %v, not %q", row, text, s, e, string(own))
			}
			from = want.To + 1
		}
		for _, row := range beyond(len(l)) {
			if s, e := lines.Span(r, row); s != (api.Span{}) || e != api.ErrArg {
				t.Fatalf("Span(%d) of %q: %v, %v", row, text, s, e)
			}
			if s, e := lines.Text(r, row); s != "" || e != api.ErrArg {
				t.Fatalf("Text(%d) of %q: %q, %v", row, text, s, e)
			}
		}
	}
}

// 8.2, 8.3: each place has the point behind the one of the place ahead, and is that point's place.
func TestPointsAndPlaces(t *testing.T) {
	for _, text := range texts() {
		r := of(t, text)
		at := 0
		for row, own := range rows(text) {
			for col := range len(own) + 1 {
				want := api.Point{Row: row, Col: col}
				if p, e := lines.PointAt(r, at); p != want || e != api.OK {
					t.Fatalf("PointAt(%d) of %q: %v, %v, not %v", at, text, p, e, want)
				}
				if n, e := lines.PlaceAt(r, want); n != at || e != api.OK {
					t.Fatalf("PlaceAt(%v) of %q: %d, %v, not %d", want, text, n, e, at)
				}
				at++
			}
		}
		if at != r.Runes()+1 {
			t.Fatalf("%d places of %q", at, text)
		}
		for _, n := range beyond(at) {
			if p, e := lines.PointAt(r, n); p != (api.Point{}) || e != api.ErrArg {
				t.Fatalf("PointAt(%d) of %q: %v, %v", n, text, p, e)
			}
		}
	}
}

// nearest is the point of a text that is nearest to one, by the words of the document.
func nearest(l [][]rune, p api.Point) api.Point {
	last := len(l) - 1
	switch {
	case p.Row < 0:
		return api.Point{}
	case p.Row > last:
		return api.Point{Row: last, Col: len(l[last])}
	case p.Col < 0:
		return api.Point{Row: p.Row}
	case p.Col > len(l[p.Row]):
		return api.Point{Row: p.Row, Col: len(l[p.Row])}
	}
	return p
}

// 8.2, 8.4: points of the text and around it.
func TestClip(t *testing.T) {
	for _, text := range texts() {
		r, l := of(t, text), rows(text)
		most := 0
		for _, own := range l {
			most = max(most, len(own))
		}
		cols := beyond(most + 1)
		for col := range most + 1 {
			cols = append(cols, col)
		}
		clip := func(row int) {
			for _, col := range cols {
				p := api.Point{Row: row, Col: col}
				q := lines.Clip(r, p)
				if want := nearest(l, p); q != want {
					t.Fatalf("Clip(%v) of %q: %v, not %v", p, text, q, want)
				}
				if again := lines.Clip(r, q); again != q {
					t.Fatalf("Clip(%v) of %q: %v, then %v", p, text, q, again)
				}
				n, e := lines.PlaceAt(r, p)
				if p == q && e != api.OK || p != q && (n != 0 || e != api.ErrArg) {
					t.Fatalf("PlaceAt(%v) of %q: %d, %v", p, text, n, e)
				}
				if _, e := lines.PlaceAt(r, q); e != api.OK {
					t.Fatalf("PlaceAt(%v) of %q, which was clipped: %v", q, text, e)
				}
			}
		}
		for row := range l {
			clip(row)
		}
		for _, row := range beyond(len(l)) {
			clip(row)
		}
	}
}

// The document's example.
func TestExample(t *testing.T) {
	r := of(t, "ab\nc")
	if n, e := lines.PlaceAt(r, api.Point{Row: 1, Col: 1}); n != 4 || e != api.OK {
		t.Errorf("PlaceAt: %d, %v", n, e)
	}
	if p := lines.Clip(r, api.Point{Col: 9}); p != (api.Point{Col: 2}) {
		t.Errorf("Clip: %v", p)
	}
}

// What is told of a rope is told of it alone, whatever was made of it.
func TestRopesStay(t *testing.T) {
	r := of(t, "ab\nc")
	x, e := r.Replace(1, 3, "\n\n")
	if e != api.OK {
		t.Fatal(e)
	}
	if lines.Rows(r) != 2 || lines.Rows(x) != 3 {
		t.Errorf("Rows: %d, %d", lines.Rows(r), lines.Rows(x))
	}
	if s, e := lines.Text(x, 2); s != "c" || e != api.OK {
		t.Errorf("Text: %q, %v", s, e)
	}
	if s, e := lines.Text(r, 0); s != "ab" || e != api.OK {
		t.Errorf("Text: %q, %v", s, e)
	}
}

// The longest text, of one row and of as many as it can have.
func TestLongestText(t *testing.T) {
	one := of(t, strings.Repeat("\u4e00", api.MaxText))
	if s, e := lines.Span(one, 0); lines.Rows(one) != 1 || s != (api.Span{To: api.MaxText}) || e != api.OK {
		t.Errorf("Span: %v, %v", s, e)
	}
	if p := lines.Clip(one, api.Point{Row: 1}); p != (api.Point{Col: api.MaxText}) {
		t.Errorf("Clip: %v", p)
	}
	many := of(t, strings.Repeat("\n", api.MaxText))
	if s, e := lines.Span(many, api.MaxText); lines.Rows(many) != api.MaxText+1 || s != (api.Span{From: api.MaxText, To: api.MaxText}) || e != api.OK {
		t.Errorf("Span: %v, %v", s, e)
	}
	if p, e := lines.PointAt(many, 12345); p != (api.Point{Row: 12345}) || e != api.OK {
		t.Errorf("PointAt: %v, %v", p, e)
	}
}

// A nil rope has one row, and it is empty.
func TestNilRope(t *testing.T) {
	for _, r := range []*rope.Rope{nil, {}} {
		if lines.Rows(r) != 1 {
			t.Errorf("Rows: %d", lines.Rows(r))
		}
		if s, e := lines.Span(r, 0); s != (api.Span{}) || e != api.OK {
			t.Errorf("Span: %v, %v", s, e)
		}
		if s, e := lines.Text(r, 0); s != "" || e != api.OK {
			t.Errorf("Text: %q, %v", s, e)
		}
		if p, e := lines.PointAt(r, 0); p != (api.Point{}) || e != api.OK {
			t.Errorf("PointAt: %v, %v", p, e)
		}
		if n, e := lines.PlaceAt(r, api.Point{}); n != 0 || e != api.OK {
			t.Errorf("PlaceAt: %d, %v", n, e)
		}
		for _, row := range beyond(1) {
			if _, e := lines.Span(r, row); e != api.ErrArg {
				t.Errorf("Span(%d): %v", row, e)
			}
			if _, e := lines.PlaceAt(r, api.Point{Row: row}); e != api.ErrArg {
				t.Errorf("PlaceAt, row %d: %v", row, e)
			}
			if p := lines.Clip(r, api.Point{Row: row, Col: row}); p != (api.Point{}) {
				t.Errorf("Clip, row %d: %v", row, p)
			}
		}
	}
}
