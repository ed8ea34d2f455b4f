package model

import (
	"testing"

	"bodkin/api"
)

// What is kept of steps that were undone goes with these: no answer tells it, but it would become more and more.
func TestUndoneIsNotKept(t *testing.T) {
	m, e := New("ab", 4, 0)
	if e != api.OK {
		t.Fatal(e)
	}
	edit := api.Op{Kind: api.DoEdit, Edits: []api.Edit{{From: 0, To: 1, Text: "x"}}}
	for _, c := range []struct {
		o    api.Op
		want int
	}{
		{edit, 0},
		{edit, 0},
		{api.Op{Kind: api.DoUndo}, 1},
		{api.Op{Kind: api.DoUndo}, 2},
		{api.Op{Kind: api.DoRedo}, 1},
		{edit, 0},
		{api.Op{Kind: api.DoUndo}, 1},
		{api.Op{Kind: api.DoFold, A: 0, B: 1}, 0},
		{api.Op{Kind: api.DoUndo}, 1},
		{api.Op{Kind: api.DoUndo}, 1}, // of which there is none
	} {
		m.Do(c.o)
		if len(m.undone) != c.want {
			t.Fatalf("%v: sets of %d steps are kept, not of %d", c.o, len(m.undone), c.want)
		}
	}
}
