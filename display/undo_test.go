package display

import (
	"testing"

	"bodkin/api"
)

// What is kept of steps that were undone goes with these: no answer tells it, but it would become more and more.
func TestUndoneIsNotKept(t *testing.T) {
	d, e := New("ab", 4, 0)
	if e != api.OK {
		t.Fatal(e)
	}
	edit := api.Op{Kind: api.DoEdit, Edits: []api.Edit{{From: 0, To: 1, Text: "x"}}}
	for _, c := range []struct {
		o    api.Op
		want int
	}{
		{edit, 0},
		{edit, 0},
		{api.Op{Kind: api.DoUndo}, 1},
		{api.Op{Kind: api.DoUndo}, 2},
		{api.Op{Kind: api.DoRedo}, 1},
		{edit, 0},
		{api.Op{Kind: api.DoUndo}, 1},
		{api.Op{Kind: api.DoFold, A: 0, B: 1}, 0},
		{api.Op{Kind: api.DoUndo}, 1},
		{api.Op{Kind: api.DoUndo}, 1}, // of which there is none
		{api.Op{Kind: api.DoUnfold}, 0},
		{api.Op{Kind: api.DoRedo}, 0},
		{api.Op{Kind: api.DoUndo}, 1},
		{api.Op{Kind: api.DoTab, A: 3}, 1},
		{api.Op{Kind: api.DoWidth, A: 3}, 1},
		{api.Op{Kind: api.DoFold, A: 9}, 1}, // an error
		{api.Op{Kind: api.DoInlay}, 0},
	} {
		d.Do(c.o)
		if len(d.undone) != c.want {
			t.Fatalf("%v: sets of %d steps are kept, not of %d", c.o, len(d.undone), c.want)
		}
	}
}
