package crease

import (
	"slices"
	"strings"
	"testing"

	"bodkin/api"
	"bodkin/inlays"
	"bodkin/item"
	"bodkin/weave"
)

// long is the woven text of a buffer of n runes, with so many inlays at its end, of api.MaxInlay runes each.
func long(t *testing.T, n, count int) *weave.Weave {
	t.Helper()
	var l []api.Inlay
	for i := range count {
		l = append(l, api.Inlay{ID: 1 + i, At: n, Text: strings.Repeat("a", api.MaxInlay)})
	}
	s, e := inlays.New(n, l)
	if e != api.OK {
		t.Fatal(e)
	}
	return weave.New(s)
}

// A piece of more runes than an item's size may be stands in two items; of what is hidden the first one shows nothing.
func TestItemsOfLongPieces(t *testing.T) {
	const end = api.MaxInt
	for i, c := range []struct {
		hidden   []api.Span
		from, to int
		want     []item.Item
	}{
		{nil, 3, 3, nil},
		{nil, 0, end, []item.Item{{D: [3]int{end, end}}}},
		{nil, 0, end + 1, []item.Item{{ID: 1, D: [3]int{end, end}}, {D: [3]int{1, 1}}}},
		{[]api.Span{{From: 2, To: end + 2}}, 1, end + 3, []item.Item{{D: [3]int{1, 1}}, {Tag: placeholder, D: [3]int{end, 1}}, {D: [3]int{1, 1}}}},
		{[]api.Span{{From: 2, To: end + 5}}, 2, end + 5, []item.Item{{Tag: placeholder, ID: 3, D: [3]int{end, 0}}, {Tag: placeholder, D: [3]int{3, 1}}}},
	} {
		if l := pieces(c.hidden, c.from, c.to); !slices.Equal(l, c.want) {
			t.Errorf("%d: %v, not %v", i, l, c.want)
		}
	}
}

// The tree of pieces is sound, and has the items that one made from nothing has, also where pieces are longer than items.
func TestItemsOfUpdates(t *testing.T) {
	const end = api.MaxInt
	const more = 60 * api.MaxInlay // runes of the woven text that are not in the buffer
	short, whole := long(t, 40, 0), long(t, end, 60)
	same := func(step int, c *Crease, e api.Errno, w *weave.Weave, hidden []api.Span) {
		t.Helper()
		want, f := New(w, hidden)
		if e != api.OK || f != api.OK || !c.kept().Sound() || !slices.Equal(c.kept().Items(), want.kept().Items()) {
			t.Fatalf("step %d: %v, %v: %v, not %v", step, e, f, c.kept().Items(), want.kept().Items())
		}
	}
	for at := range 41 {
		c, _ := New(short, nil)
		u, e := c.Update(api.Span{From: at, To: at}, api.Span{From: at, To: at + end - 40 + more}, whole, nil)
		same(at, u, e, whole, nil)
		u, e = u.Update(api.Span{From: at, To: at + end - 40 + more}, api.Span{From: at, To: at}, short, nil)
		same(at, u, e, short, nil)
	}
	// A plain piece that grows at its end, behind an item that is full, and shrinks there.
	for count := range 60 {
		w, v := long(t, end, count), long(t, end, count+1)
		c, _ := New(w, nil)
		turned := api.Span{From: end + count*api.MaxInlay, To: end + count*api.MaxInlay}
		grown := api.Span{From: turned.From, To: turned.To + api.MaxInlay}
		u, e := c.Update(turned, grown, v, nil)
		same(count, u, e, v, nil)
		u, e = u.Update(grown, turned, w, nil)
		same(count, u, e, w, nil)
	}
	// An end of what is turned in either item of the plain piece, between both, and at its ends.
	places := []int{0, 1, end - 1, end, end + 1, end + more - 1, end + more}
	for step, from := range places {
		for _, to := range places[step:] {
			c, _ := New(whole, nil)
			turned := api.Span{From: from, To: to}
			u, e := c.Update(turned, turned, whole, nil)
			same(step, u, e, whole, nil)
			if from >= to || to > end {
				continue
			}
			hidden := []api.Span{turned}
			u, e = c.Update(turned, turned, whole, hidden)
			same(step, u, e, whole, hidden)
			u, e = u.Update(turned, turned, whole, nil)
			same(step, u, e, whole, nil)
		}
	}
}
