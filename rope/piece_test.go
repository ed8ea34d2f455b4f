package rope

import (
	"strings"
	"testing"

	"bodkin/api"
	"bodkin/item"
)

// The tree of pieces is sound, and each piece's sizes are those of its text.
func TestItemsOfPieces(t *testing.T) {
	r, e := New(strings.Repeat("a\u4e00\n", 50))
	for k := range 200 {
		if e != api.OK || !r.row.Sound() {
			t.Fatalf("step %d: %v", k, e)
		}
		for _, i := range r.row.Items() {
			want := item.Item{D: [3]int{len(i.Text), len([]rune(i.Text)), strings.Count(i.Text, "\n")}, Text: i.Text}
			if i != want {
				t.Fatalf("step %d: %+v, not %+v", k, i, want)
			}
		}
		at := k * 37 % (r.Runes() + 1)
		r, e = r.Replace(at, min(at+k%50, r.Runes()), strings.Repeat("\n\U0001f600", k%30))
	}
}

// New cuts a text into the fewest pieces that it can be cut into.
func TestCutIsEven(t *testing.T) {
	for n := range 200 {
		row := cut([]rune(strings.Repeat("\u00e9", n)))
		if len(row) != (n+Piece-1)/Piece {
			t.Errorf("%d runes: %d pieces", n, len(row))
		}
		for _, i := range row {
			if d := i.D[inRunes] * len(row); d > n+len(row)-1 || d < n-len(row)+1 {
				t.Errorf("%d runes in %d pieces: one of %d", n, len(row), i.D[inRunes])
			}
		}
	}
}
