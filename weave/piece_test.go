package weave

import (
	"testing"

	"bodkin/api"
	"bodkin/inlays"
	"bodkin/item"
)

// The tree of pieces is sound, no two plain ones are side by side, and each piece's sizes are those of its kind.
func TestItemsOfPieces(t *testing.T) {
	w := New(nil)
	for k := range 300 {
		n, _ := w.Sizes()
		from := k * 37 % (n + 1)
		old := api.Span{From: from, To: min(from+k%3, n)}
		now := api.Span{From: from, To: from + 2 + k%5}
		l := []api.Inlay{{ID: 1 + 2*k, At: now.From + k%2, Text: "\u4e00b"}, {ID: 2 + 2*k, At: now.To, Text: "\xff"}}
		s, e := inlays.New(n-old.To+now.To, l)
		if e == api.OK {
			w, e = w.Update(old, now, s)
		}
		if e != api.OK || !w.row.Sound() {
			t.Fatalf("step %d: %v", k, e)
		}
		wasPlain := false
		for _, i := range w.row.Items() {
			size := i.D[inWoven]
			want := item.Item{ID: i.ID, D: [3]int{0, size}}
			if plain(i) {
				want.D[inBuffer] = size
			}
			if i != want || size < 1 || plain(i) && wasPlain {
				t.Fatalf("step %d: %+v, not %+v; a plain one ahead of it: %v", k, i, want, wasPlain)
			}
			wasPlain = plain(i)
		}
	}
}
