package ops_test

import (
	"math"
	"slices"
	"strings"
	"testing"
	"unicode/utf8"

	"bodkin/api"
	"bodkin/flow"
	"bodkin/ops"
	"bodkin/state"
)

func edits(l ...api.Edit) api.Op { return api.Op{Kind: api.DoEdit, Edits: l} }

func edit(from, to int, s string) api.Op { return edits(api.Edit{From: from, To: to, Text: s}) }

func fold(a, b int) api.Op { return api.Op{Kind: api.DoFold, A: a, B: b} }

func unfold(a, b int) api.Op { return api.Op{Kind: api.DoUnfold, A: a, B: b} }

func add(l ...api.Inlay) api.Op { return api.Op{Kind: api.DoInlay, Add: l} }

func remove(l ...int) api.Op { return api.Op{Kind: api.DoInlay, Remove: l} }

func wide(a int) api.Op { return api.Op{Kind: api.DoWidth, A: a} }

func tab(a int) api.Op { return api.Op{Kind: api.DoTab, A: a} }

// in is an inlay.
func in(id, at int, s string) api.Inlay { return api.Inlay{ID: id, At: at, Text: s} }

// The example of the document.
func TestExample(t *testing.T) {
	s := made(t, partsOf(t, "ab\ncd", nil, nil, 4, 0))
	d, e := ops.Do(s, fold(1, 4))
	if e != api.OK || d.Patch != rows(0, 2, 1) || !d.State.Sound() || !slices.Equal(d.State.Parts().Folds.All(), list(1, 4)) {
		t.Errorf("%v, %v", d, e)
	}
	// An example of the whole.
	s = made(t, partsOf(t, "ab\u4e00cd", nil, nil, 4, 0))
	if d, e := ops.Do(s, fold(1, 3)); e != api.ErrMid || d.State != nil {
		t.Errorf("%v, %v", d, e)
	}
}

// 31.1: row patches, one by one: just the lines are looked at in which something was turned.
func TestPatches(t *testing.T) {
	// Rows: "a"; "a"; "bc ", "d"; "a"; "a"; "".
	in := []api.Inlay{{ID: 1, At: 9, Text: "x"}, {ID: 2, At: 11, Text: "x"}}
	s := made(t, partsOf(t, "a\na\nbc d\na\na\n", in[:0], nil, 4, 3))
	for i, c := range []struct {
		o    api.Op
		want api.RowPatch
	}{
		{edit(2, 2, "a\n"), rows(2, 2, 3)}, // ahead of the second row, which is laid out
		{edit(0, 2, ""), rows(1, 2, 1)},
		{edit(7, 8, "e"), rows(3, 4, 4)},
		{edit(7, 8, "d"), rows(4, 4, 4)}, // like what was there
		{edit(3, 4, "\n"), rows(4, 4, 4)},
		{edit(4, 5, "\n"), rows(2, 4, 4)},
		{edit(5, 6, "\n"), rows(2, 4, 4)},
		{edit(6, 7, " e\n"), rows(3, 4, 5)},
		{edits(), rows(7, 7, 7)}, // nothing is turned: all rows are looked at
		{edit(5, 5, ""), rows(7, 7, 7)},
		{edits(api.Edit{From: 1, To: 1}, api.Edit{From: 7, To: 8, Text: "e"}, api.Edit{From: 11, To: 11}), rows(3, 4, 4)},
		{edits(api.Edit{From: 0, To: 0}, api.Edit{From: 4, To: 8, Text: "bc d"}), rows(4, 4, 4)},
		{edits(api.Edit{From: 0, To: 1, Text: "a"}, api.Edit{From: 9, To: 10, Text: "a"}), rows(5, 5, 5)},
		{edits(api.Edit{From: 2, To: 3, Text: "z"}, api.Edit{From: 7, To: 7, Text: "zz"}), rows(1, 4, 4)},
		{fold(4, 8), rows(2, 4, 3)},
		{fold(0, 1), rows(0, 1, 1)},
		{fold(2, 12), rows(1, 6, 2)},
		{unfold(2, 2), rows(2, 2, 2)}, // there is none: the line is looked at
		{unfold(7, 7), rows(4, 4, 4)},
		{unfold(2, 9), rows(5, 5, 5)},
		{add(), rows(1, 1, 1)}, // nothing comes or goes: the first line is looked at
		{remove(), rows(1, 1, 1)},
		{add(in[0]), rows(4, 5, 5)},
		{add(in[1]), rows(5, 6, 6)},
		{add(in...), rows(4, 6, 6)},
		{add(api.Inlay{ID: 5, Text: "z"}), rows(0, 1, 1)},
		{wide(3), rows(1, 1, 1)}, // as it was: nothing is turned
		{tab(4), rows(1, 1, 1)},
		{wide(0), rows(2, 4, 3)},
		{wide(1), rows(2, 3, 5)}, // the row of d alone is as it was
		{wide(4), rows(2, 4, 3)},
		{tab(5), rows(7, 7, 7)}, // all rows are looked at
	} {
		if d, e := ops.Do(s, c.o); d.Patch != c.want || e != api.OK {
			t.Errorf("%d: %v: %v, %v, not %v", i, c.o, d.Patch, e, c.want)
		}
		hold(t, s, c.o)
	}
}

// 31.1: of folds that are removed all of them are turned, wherever they begin and end; of inlays all places where one goes or comes.
func TestReach(t *testing.T) {
	// Rows: "a"; a placeholder, "b"; "c"; "d".
	p := partsOf(t, "a\naa\nb\nc\nd", []api.Inlay{{ID: 1, At: 0, Text: "i"}, {ID: 2, At: 7, Text: "i"}, {ID: 3, At: 7, Text: "j"}}, list(2, 5, 3, 5), 4, 0)
	s := made(t, p)
	for i, c := range []struct {
		o    api.Op
		n    int
		want api.RowPatch
	}{
		{unfold(2, 2), 1, rows(1, 2, 2)}, // one is left
		{unfold(5, 5), 2, rows(1, 2, 3)},
		{unfold(3, 4), 2, rows(1, 2, 3)},
		{unfold(5, 7), 2, rows(1, 2, 3)},
		{unfold(0, 9), 2, rows(1, 2, 3)},
		{unfold(0, 1), 0, rows(1, 1, 1)},
		{unfold(6, 9), 0, rows(4, 4, 4)},
		{fold(2, 3), 0, rows(2, 2, 2)},
		{fold(4, 6), 0, rows(1, 2, 2)},
		{fold(6, 7), 0, rows(1, 3, 2)},
		{remove(1), 0, rows(0, 1, 1)},
		{remove(3), 0, rows(2, 3, 3)},
		{remove(1, 3), 0, rows(0, 3, 3)},
		{api.Op{Kind: api.DoInlay, Remove: []int{2}, Add: []api.Inlay{{ID: 2, At: 7, Text: "i"}}}, 0, rows(3, 3, 3)},
		{api.Op{Kind: api.DoInlay, Remove: []int{2}, Add: []api.Inlay{{ID: 2, At: 9, Text: "i"}}}, 0, rows(2, 4, 4)},
		{api.Op{Kind: api.DoInlay, Remove: []int{1}, Add: []api.Inlay{{ID: 9, At: 3, Text: "i"}}}, 0, rows(0, 1, 1)}, // what comes is hidden
	} {
		d, e := ops.Do(s, c.o)
		if d.Patch != c.want || d.N != c.n || e != api.OK {
			t.Errorf("%d: %v: %v, %d, %v, not %v, %d", i, c.o, d.Patch, d.N, e, c.want, c.n)
		}
		hold(t, s, c.o)
	}
}

// 31.1: the step is told of DoEdit alone; the texts that were handed in as they are.
func TestStep(t *testing.T) {
	s := made(t, partsOf(t, "\u4e00bcd\nef", nil, list(1, 3), 4, 2))
	d, e := ops.Do(s, edits(api.Edit{From: 0, To: 3, Text: "x\xff"}, api.Edit{From: 3, To: 3, Text: "yz"}, api.Edit{From: 5, To: 8}))
	back := []api.Edit{{From: 0, To: 2, Text: "\u4e00"}, {From: 2, To: 4}, {From: 6, To: 6, Text: "d\ne"}}
	forth := []api.Edit{{From: 0, To: 1, Text: "x\xff"}, {From: 1, To: 1, Text: "yz"}, {From: 3, To: 6}}
	if e != api.OK || !slices.Equal(d.Step.Back, back) || !slices.Equal(d.Step.Forth, forth) || d.State.Parts().Text.Text() != "x\ufffdyzbcf" {
		t.Errorf("%v, %v", d.Step, e)
	}
	u, e := ops.Apply(d.State, d.Step.Back)
	if e != api.OK || u.State.Parts().Text.Text() != "\u4e00bcd\nef" {
		t.Errorf("back: %v", e)
	}
	if u, e = ops.Apply(u.State, d.Step.Forth); e != api.OK || u.State.Parts().Text.Text() != "x\ufffdyzbcf" || !slices.Equal(u.Step.Back, back) || !slices.Equal(u.Step.Forth, forth) {
		t.Errorf("forth: %v, %v", u.Step, e)
	}
}

// 31.1: the errors of each kind, in their order.
func TestErrors(t *testing.T) {
	long := strings.Repeat("x", api.MaxInlay+1)
	// The text is a, b, 4e00 at the bytes 2 to 5, a break, c: 7 bytes, 5 runes.
	s := made(t, partsOf(t, "ab\u4e00\nc", []api.Inlay{in(1, 4, "in")}, list(2, 3), 4, 3))
	for i, c := range []struct {
		o api.Op
		e api.Errno
	}{
		{edit(-1, 0, ""), api.ErrArg},
		{edit(8, 8, ""), api.ErrArg},
		{edit(3, 8, ""), api.ErrMid},
		{edit(8, 3, ""), api.ErrArg},
		{edit(0, 4, ""), api.ErrMid},
		{edit(5, 2, ""), api.ErrArg},
		{edit(math.MinInt, math.MaxInt, ""), api.ErrArg},
		{edits(api.Edit{From: 5, To: 6}, api.Edit{From: 2, To: 2}), api.ErrOrder},
		{edits(api.Edit{From: 5, To: 2}, api.Edit{From: 2, To: 3}), api.ErrMid}, // all places ahead of batch.Check
		{edits(api.Edit{From: 5, To: 6}, api.Edit{From: 2, To: 1}), api.ErrArg},
		{edits(api.Edit{From: 5, To: 6, Text: strings.Repeat("a", api.MaxText)}, api.Edit{From: 2, To: 2}), api.ErrOrder},
		{edit(5, 6, strings.Repeat("a", api.MaxText)), api.ErrFull},
		{edit(3, 3, strings.Repeat("a", api.MaxText)), api.ErrMid},
		{edits(make([]api.Edit, api.MaxEdits+1)...), api.ErrLong},
		{edits(slices.Repeat([]api.Edit{{From: 3, To: -1}}, api.MaxEdits+1)...), api.ErrLong},
		{edits(slices.Repeat([]api.Edit{{From: 3, To: -1}}, api.MaxEdits)...), api.ErrMid},
		{fold(-1, 3), api.ErrArg},
		{fold(3, -1), api.ErrMid},
		{fold(0, 3), api.ErrMid},
		{fold(0, 8), api.ErrArg},
		{fold(2, 2), api.ErrArg},
		{fold(5, 2), api.ErrArg},
		{fold(2, 5), api.ErrSame},
		{unfold(-1, 3), api.ErrArg},
		{unfold(3, -1), api.ErrMid},
		{unfold(0, 4), api.ErrMid},
		{unfold(0, 8), api.ErrArg},
		{unfold(5, 2), api.ErrArg},
		{add(slices.Repeat([]api.Inlay{in(-1, -1, "")}, api.MaxInlays+1)...), api.ErrFull},
		{add(in(0, 3, "")), api.ErrMid},
		{add(in(0, 8, "")), api.ErrArg},
		{add(in(2, 5, "x"), in(2, 4, "x")), api.ErrMid},
		{add(in(2, 8, "x"), in(2, 4, "x")), api.ErrArg},
		{api.Op{Kind: api.DoInlay, Remove: []int{9}, Add: []api.Inlay{in(2, 4, "x")}}, api.ErrMid},
		{api.Op{Kind: api.DoInlay, Remove: []int{9}, Add: []api.Inlay{in(2, 5, "")}}, api.ErrNone},
		{remove(9), api.ErrNone},
		{remove(1, 1), api.ErrNone},
		{api.Op{Kind: api.DoInlay, Remove: []int{9}, Add: slices.Repeat([]api.Inlay{in(2, 4, "x")}, api.MaxInlays+1)}, api.ErrFull},
		{add(slices.Repeat([]api.Inlay{in(2, 5, "")}, api.MaxInlays)...), api.ErrFull}, // with the one that is there
		{add(in(0, 5, "x")), api.ErrArg},
		{add(api.Inlay{ID: 2, At: 5, Bias: 2, Text: "x"}), api.ErrArg},
		{add(in(2, 5, long)), api.ErrLong},
		{add(in(2, 5, "x\n")), api.ErrForm},
		{add(in(1, 5, "x")), api.ErrSame},
		{wide(-1), api.ErrArg},
		{wide(api.MaxWidth + 1), api.ErrArg},
		{wide(math.MinInt), api.ErrArg},
		{wide(math.MaxInt), api.ErrArg},
		{tab(0), api.ErrArg},
		{tab(-1), api.ErrArg},
		{tab(api.MaxTab + 1), api.ErrArg},
		{tab(math.MaxInt), api.ErrArg},
		{wide(0), api.OK},
		{wide(api.MaxWidth), api.OK},
		{tab(1), api.OK},
		{tab(api.MaxTab), api.OK},
	} {
		if _, e := hold(t, s, c.o); e != c.e {
			t.Errorf("%d: %v, not %v", i, e, c.e)
		}
		if d, e := ops.Do(nil, c.o); e != api.ErrState {
			t.Errorf("%d: of a nil state %v", i, e)
		} else {
			holdNone(t, d)
		}
	}
}

// 31.1: any other Kind, of which nothing else is looked at.
func TestOtherKinds(t *testing.T) {
	s := made(t, partsOf(t, "ab\nc", nil, list(1, 2), 4, 3))
	for _, kind := range []int{0, -1, api.DoUndo, api.DoRedo, 9, 12, math.MinInt, math.MaxInt} {
		for _, o := range []api.Op{{Kind: kind}, {Kind: kind, A: -1, B: 99, Edits: make([]api.Edit, 99), Remove: []int{1}, Add: make([]api.Inlay, 99)}} {
			d, e := ops.Do(s, o)
			if e != api.ErrForm {
				t.Errorf("the kind %d: %v", kind, e)
			}
			holdNone(t, d)
			if d, e = ops.Do(nil, o); e != api.ErrState {
				t.Errorf("the kind %d of a nil state: %v", kind, e)
			}
			holdNone(t, d)
		}
	}
}

// 31.1: what an operation does not look at is as may be.
func TestOtherFields(t *testing.T) {
	all := api.Op{A: 1, B: 2, Edits: []api.Edit{{From: 1, To: 2, Text: "x\ny"}}, Remove: []int{1}, Add: []api.Inlay{in(2, 2, "z")}}
	wrong := api.Op{A: 1, B: -1, Edits: []api.Edit{{From: -1}}, Remove: []int{7}, Add: []api.Inlay{in(0, -1, "")}}
	s := made(t, partsOf(t, "ca b", []api.Inlay{in(1, 1, "in")}, list(0, 1), 4, 3))
	for kind := api.DoEdit; kind <= api.DoTab; kind++ {
		all.Kind, wrong.Kind = kind, kind
		if _, e := hold(t, s, all); e != api.OK {
			t.Errorf("the kind %d: %v", kind, e)
		}
		if _, e := hold(t, s, wrong); (e == api.OK) != (kind >= api.DoWidth) {
			t.Errorf("the kind %d: %v", kind, e)
		}
	}
}

// 31.2: batch.Apply's errors, in their order; a nil state ahead of them.
func TestApplyErrors(t *testing.T) {
	s := made(t, partsOf(t, "\u4e00b\nc", nil, list(1, 2), 4, 0)) // 4 runes, 6 bytes
	for i, c := range []struct {
		l []api.Edit
		e api.Errno
	}{
		{[]api.Edit{{From: -1}}, api.ErrArg},
		{[]api.Edit{{From: 2, To: 1}}, api.ErrArg},
		{[]api.Edit{{From: 4, To: 5}}, api.ErrArg},
		{[]api.Edit{{From: 5, To: 5}}, api.ErrArg},
		{[]api.Edit{{From: math.MinInt, To: math.MaxInt}}, api.ErrArg},
		{[]api.Edit{{From: 2, To: 3}, {From: 1, To: 1}}, api.ErrOrder},
		{[]api.Edit{{From: 2, To: 3}, {From: 1, To: 0}}, api.ErrArg},
		{[]api.Edit{{From: 2, To: 3}, {From: 1, To: 1}, {From: -1}}, api.ErrOrder},
		{[]api.Edit{{From: 2, To: 3, Text: strings.Repeat("x", api.MaxText)}, {From: 1, To: 1}}, api.ErrOrder},
		{[]api.Edit{{From: 2, To: 3, Text: strings.Repeat("x", api.MaxText)}}, api.ErrFull},
		{[]api.Edit{{From: 2, To: 3, Text: strings.Repeat("x", api.MaxText-3)}}, api.OK},
		{slices.Repeat([]api.Edit{{From: -1}}, api.MaxEdits+1), api.ErrLong},
		{slices.Repeat([]api.Edit{{From: -1}}, api.MaxEdits), api.ErrArg},
		{make([]api.Edit, api.MaxEdits), api.OK},
		{[]api.Edit{{From: 1, To: 4, Text: "x"}}, api.OK}, // places of runes: the byte 1 is within one
		{nil, api.OK},
	} {
		d, e := ops.Apply(s, c.l)
		if e != c.e || (d.State == nil) != (e != api.OK) {
			t.Errorf("%d: %v, not %v", i, e, c.e)
		}
		if e != api.OK {
			holdNone(t, d)
		}
		if d, e = ops.Apply(nil, c.l); e != api.ErrState {
			t.Errorf("%d: of a nil state %v", i, e)
		}
		holdNone(t, d)
	}
}

// allTexts are all texts of n of some runes.
func allTexts(some string, n int) []string {
	all := []string{""}
	for range n {
		var more []string
		for _, s := range all {
			for _, r := range some {
				more = append(more, s+string(r))
			}
		}
		all = more
	}
	return all
}

// allFolds are all lists of up to two folds of n runes.
func allFolds(n int) [][]api.Span {
	all := [][]api.Span{nil}
	var one []api.Span
	for a := range n {
		for b := a + 1; b <= n; b++ {
			one = append(one, span(a, b))
		}
	}
	for i, x := range one {
		all = append(all, []api.Span{x})
		for _, y := range one[i+1:] {
			all = append(all, []api.Span{x, y})
		}
	}
	return all
}

// allOps are operations at all places of a text of n bytes, and next to it; of batches of two edits some.
func allOps(n, seed int) []api.Op {
	all := []api.Op{edits(), add(), remove(5), remove(2), remove(2, 5), tab(1), tab(4), tab(5)}
	for w := range 5 {
		all = append(all, wide(w))
	}
	for a := -1; a <= n+1; a++ {
		all = append(all, add(in(7, a, "v")), api.Op{Kind: api.DoInlay, Remove: []int{5}, Add: []api.Inlay{{ID: 5, At: a, Bias: api.Right, Text: "w"}, in(8, n-a, "v")}})
		for b := -1; b <= n+1; b++ {
			all = append(all, fold(a, b), unfold(a, b))
			for i, s := range []string{"", "b", "\n", "b\nc"} {
				c := b + mix(seed+17*a+5*b+i, n+1)
				all = append(all, edit(a, b, s), edits(api.Edit{From: a, To: b, Text: s}, api.Edit{From: c, To: min(n, c+1), Text: "\nd"[i%2 : i%2+1]}))
			}
		}
	}
	return all
}

// 31.1 to 31.4: operations at all places of small texts, whatever is folded in them, with inlays.
func TestSmall(t *testing.T) {
	seed := 0
	for n := range 5 {
		for _, s := range allTexts("a\n", n) {
			for _, f := range allFolds(n) {
				seed++
				if n == 4 && seed%12 > 0 {
					continue
				}
				l := []api.Inlay{{ID: 5, At: mix(seed, n+1), Bias: seed % 2, Text: "xy"}, {ID: 2, At: mix(seed+1, n+1), Bias: seed / 2 % 2, Text: "z"}}
				x := made(t, partsOf(t, s, l[:mix(seed+2, 3)], f, 4, mix(seed+3, 4)))
				for _, o := range allOps(n, seed) {
					if _, e := hold(t, x, o); e == api.OK && o.Kind == api.DoEdit {
						holdApply(t, x, o.Edits)
					}
				}
			}
		}
	}
}

// some is an operation of some seed; some of its bytes are none of the text, or within a rune.
func some(text string, seed int) api.Op {
	at := func(i int) int {
		n := mix(20*seed+i, len(text)+1)
		if mix(20*seed+i+1, 30) == 0 {
			return n - 2 + mix(20*seed+i+2, 5)
		}
		for n < len(text) && !utf8.RuneStart(text[n]) {
			n++
		}
		return n
	}
	o := api.Op{Kind: 1 + mix(seed, 7), A: at(0), B: at(3)}
	if o.A > o.B && mix(seed+1, 8) > 0 {
		o.A, o.B = o.B, o.A
	}
	switch o.Kind {
	case api.DoInlay:
		for i := range mix(seed+2, 3) {
			o.Add = append(o.Add, api.Inlay{ID: mix(seed+3+i, 20), At: at(6 + 3*i), Bias: mix(seed+5+i, 2), Key: mix(seed+7+i, 3), Text: []string{"i", "\u4e00\xff", "\t ", "xy z", ""}[mix(seed+9+i, 5)]})
		}
		for i := range mix(seed+11, 2) {
			o.Remove = append(o.Remove, mix(seed+12+i, 20))
		}
	case api.DoWidth:
		o.A = mix(seed+2, 14) - 1
	case api.DoTab:
		o.A = mix(seed+2, api.MaxTab+3)
	case api.DoEdit, api.DoTab + 1:
		o.Kind, o.Edits = api.DoEdit, someEdits(at, seed)
	}
	return o
}

// someEdits are up to three edits, most of which rise.
func someEdits(at func(i int) int, seed int) []api.Edit {
	var ends []int
	for i := range 2 * mix(seed+2, 4) {
		ends = append(ends, at(6+i))
	}
	if mix(seed+3, 10) > 0 {
		slices.Sort(ends)
	}
	var l []api.Edit
	for i := 0; i < len(ends); i += 2 {
		l = append(l, api.Edit{From: ends[i], To: ends[i+1], Text: []string{"", "a", "b\n", "\t\u4e00", " cd ", "\xe4\xb8"}[mix(seed+4+i, 6)]})
	}
	return l
}

// 31.1 to 31.4: longer texts, to which operations are done again and again.
func TestLong(t *testing.T) {
	seen := map[[2]int]int{}
	for seed := range 300 {
		text := strings.Repeat([]string{"", "ab cd\n", "\u4e00\xff\t", "  x yz\n\n"}[mix(seed, 4)], 1+mix(seed+1, 6))
		s := made(t, partsOf(t, text, nil, nil, 1+mix(seed+2, 8), mix(seed+3, 12)))
		for i := range 40 {
			o := some(s.Parts().Text.Text(), 1000*seed+i)
			d, e := hold(t, s, o)
			seen[[2]int{o.Kind, int(e)}]++
			if e != api.OK {
				continue
			}
			if o.Kind == api.DoEdit {
				holdApply(t, s, o.Edits)
			}
			s = d.State
		}
	}
	for kind, l := range [][]api.Errno{
		api.DoEdit:   {api.OK, api.ErrArg, api.ErrMid, api.ErrOrder},
		api.DoFold:   {api.OK, api.ErrArg, api.ErrMid, api.ErrSame},
		api.DoUnfold: {api.OK, api.ErrArg, api.ErrMid},
		api.DoInlay:  {api.OK, api.ErrArg, api.ErrMid, api.ErrNone, api.ErrSame, api.ErrForm},
		api.DoWidth:  {api.OK, api.ErrArg},
		api.DoTab:    {api.OK, api.ErrArg},
	} {
		for _, e := range l {
			if seen[[2]int{kind, int(e)}] < 3 {
				t.Errorf("the kind %d has told %v only %d times", kind, e, seen[[2]int{kind, int(e)}])
			}
		}
	}
}

// P6: of one edit within one line in which nothing is hidden the patch is of that line's rows alone.
func TestTight(t *testing.T) {
	// Rows: "ab ", "cd"; a placeholder; "ef ", "gh"; "".
	s := made(t, partsOf(t, "ab cd\nx\ny\nef gh\n", nil, list(6, 9), 4, 3))
	for from := 10; from <= 15; from++ {
		for to := from; to <= 15; to++ {
			for _, text := range []string{"", "z", "z zz z"} {
				if from == to && text == "" { // nothing is turned
					continue
				}
				d, e := hold(t, s, edit(from, to, text))
				if e != api.OK || d.Patch.OldFrom < 3 || d.Patch.OldTo > 5 || d.Patch.OldTo-d.Patch.NewTo != 6-len(allRows(t, d.State)) {
					t.Errorf("%d to %d by %q: %v", from, to, text, d.Patch)
				}
			}
		}
	}
}

// 31.1: as many edits, runes, folds and inlays as there may be, and one more.
func TestMost(t *testing.T) {
	s := made(t, partsOf(t, strings.Repeat("ab", api.MaxEdits), nil, nil, 4, 20))
	then := func(o api.Op, want api.Errno) {
		t.Helper()
		d, e := hold(t, s, o)
		if e != want {
			t.Fatalf("%v, not %v", e, want)
		}
		if e == api.OK {
			s = d.State
		}
	}
	var l []api.Edit
	for i := range api.MaxEdits {
		l = append(l, api.Edit{From: 2 * i, To: 2*i + 1, Text: "\u4e00\n"})
	}
	then(edits(l...), api.OK)
	n := s.Parts().Text.Runes()
	then(edit(0, 0, strings.Repeat("x", api.MaxText-n+1)), api.ErrFull)
	then(edit(0, 0, strings.Repeat("x", api.MaxText-n)), api.OK)
	then(edit(0, 1, "xy"), api.ErrFull)
	then(edits(api.Edit{From: 0, To: 0, Text: "yz"}, api.Edit{From: 3, To: 5}), api.OK) // too long on the way alone
	for i := range api.MaxFolds {
		d, e := ops.Do(s, fold(2*i, 2*i+1))
		if e != api.OK {
			t.Fatalf("the fold %d: %v", i, e)
		}
		s = d.State
	}
	then(fold(200, 200), api.ErrFull)
	then(fold(200, 201), api.ErrFull)
	then(unfold(7, 9), api.OK)
	then(fold(200, 201), api.OK)
	var in []api.Inlay
	for i := range api.MaxInlays {
		in = append(in, api.Inlay{ID: 1 + i, At: i, Text: strings.Repeat("\u4e00", api.MaxInlay)})
	}
	then(add(in...), api.OK)
	then(add(api.Inlay{ID: 99, Text: "x"}), api.ErrFull)
	then(api.Op{Kind: api.DoInlay, Remove: []int{5}, Add: []api.Inlay{{ID: 99, Text: "x"}}}, api.OK)
	then(edit(0, len(s.Parts().Text.Text()), ""), api.OK)
	then(edit(0, 0, strings.Repeat("\n", api.MaxText)), api.OK)
	then(edit(api.MaxText-2, api.MaxText-1, "a"), api.OK)
	then(wide(1), api.OK)
}

// 31.1: states of nothing.
func TestNothing(t *testing.T) {
	bare, e := state.New(state.Parts{Tab: 4})
	if e != api.OK {
		t.Fatal(e)
	}
	for _, s := range []*state.State{bare, made(t, partsOf(t, "", nil, nil, 4, 0)), made(t, partsOf(t, "", []api.Inlay{in(5, 0, "x")}, nil, 4, 2))} {
		for _, o := range allOps(0, 3) {
			hold(t, s, o)
		}
	}
}

// R1: no call dies of a state that none has made, nor of one whose maps are not right.
func TestWrongStates(t *testing.T) {
	p := partsOf(t, "ab\ncd", []api.Inlay{in(5, 1, "x")}, list(3, 5), 4, 0)
	m := made(t, p).Maps()
	m.Flow, _ = flow.New([]flow.Line{{Shown: 1, Buffer: 1, Rows: 7, Wide: 3}, {Rows: 1}, {Shown: 4, Buffer: 4, Rows: 2}})
	wrong, e := state.With(p, m)
	if e != api.OK {
		t.Fatal(e)
	}
	for _, s := range []*state.State{{}, wrong} {
		for _, o := range allOps(5, 9) {
			d, e := ops.Do(s, o)
			if e != api.OK {
				holdNone(t, d)
			}
			if d, e = ops.Apply(s, o.Edits); e != api.OK {
				holdNone(t, d)
			}
		}
	}
}

// 31.4, R3: what is handed in stays as it is, spare room too, and is not kept; what is answered is new, and shares nothing.
func TestNothingIsShared(t *testing.T) {
	l := append(make([]api.Edit, 0, 4), api.Edit{From: 3, To: 6, Text: "x"}, api.Edit{From: 6, To: 6, Text: "y"})
	adds := append(make([]api.Inlay, 0, 4), api.Inlay{ID: 2, At: 3, Text: "p"}, api.Inlay{ID: 4, At: 4, Text: "q"})
	gone := append(make([]int, 0, 4), 1)
	wasEdits, wasAdds, wasGone := slices.Clone(l[:4]), slices.Clone(adds[:4]), slices.Clone(gone[:4])
	s := made(t, partsOf(t, "\u4e00bcd\n e\t", []api.Inlay{in(1, 0, "a")}, list(2, 4), 4, 3))
	rows := allRows(t, s)
	var told []ops.Done
	for _, do := range []func() (ops.Done, api.Errno){
		func() (ops.Done, api.Errno) { return ops.Do(s, edits(l...)) },
		func() (ops.Done, api.Errno) { return ops.Do(s, api.Op{Kind: api.DoEdit, Edits: l}) },
		func() (ops.Done, api.Errno) { return ops.Apply(s, l) },
		func() (ops.Done, api.Errno) { return ops.Do(s, api.Op{Kind: api.DoInlay, Remove: gone, Add: adds}) },
	} {
		d, e := do()
		if e != api.OK {
			t.Fatal(e)
		}
		told = append(told, d)
		if !slices.Equal(l[:4], wasEdits) || !slices.Equal(adds[:4], wasAdds) || !slices.Equal(gone[:4], wasGone) {
			t.Fatalf("what was handed in has changed: %v, %v, %v", l[:4], adds[:4], gone[:4])
		}
	}
	clear(l[:4])
	clear(adds[:4])
	for _, d := range told[:2] {
		back, forth := d.Step.Back, d.Step.Forth
		if !slices.Equal(forth, []api.Edit{{From: 1, To: 4, Text: "x"}, {From: 4, To: 4, Text: "y"}}) {
			t.Errorf("Forth is kept of what was handed in: %v", forth)
		}
		was := slices.Clone(forth)
		clear(back[:cap(back)])
		if !slices.Equal(forth, was) {
			t.Error("both lists of a step are one")
		}
	}
	if x := told[2].Step.Forth; !slices.Equal(x, wasEdits[:2]) {
		t.Errorf("Forth is kept of what was handed in: %v", x)
	}
	if x := told[3].State.Parts().Inlays.All(); len(x) != 2 || x[0] != (api.Inlay{ID: 2, At: 1, Text: "p"}) || x[1] != (api.Inlay{ID: 4, At: 2, Text: "q"}) {
		t.Errorf("inlays: %v", x)
	}
	if !s.Sound() || !slices.EqualFunc(allRows(t, s), rows, same) {
		t.Error("the state is turned")
	}
}

// 31.4, R6: the same call tells the same, and what was told stays, whatever is done then.
func TestAgain(t *testing.T) {
	s := made(t, partsOf(t, "ab cd\n\u4e00\tef\n  gh", []api.Inlay{in(1, 2, "uv")}, list(4, 7), 4, 5))
	type kept struct {
		done ops.Done
		rows []api.Row
	}
	var all []kept
	for round := range 2 {
		for i := range 120 {
			d, _ := hold(t, s, some(s.Parts().Text.Text(), 7*i))
			var r []api.Row
			if d.State != nil {
				r = allRows(t, d.State)
				hold(t, d.State, some(d.State.Parts().Text.Text(), 11*i))
			}
			if round == 0 {
				all = append(all, kept{d, r})
				continue
			}
			k := all[i]
			if k.done.Patch != d.Patch || k.done.N != d.N || !slices.EqualFunc(k.rows, r, same) || !slices.Equal(k.done.Step.Back, d.Step.Back) || !slices.Equal(k.done.Step.Forth, d.Step.Forth) {
				t.Fatalf("%d: %v, not %v", i, d, k.done)
			}
			if k.done.State != nil && (!k.done.State.Sound() || !slices.EqualFunc(allRows(t, k.done.State), k.rows, same)) {
				t.Fatalf("%d: what was told has changed", i)
			}
		}
	}
}

// Nothing is turned that need not be: lines in which nothing was turned are left as they are, also where they were not right.
func TestLeavesAllElse(t *testing.T) {
	p := partsOf(t, strings.Repeat("abc\n", 50), []api.Inlay{in(1, 20, "x"), in(2, 29, "y"), in(3, 120, "z")}, list(81, 82, 90, 91), 4, 6)
	m := made(t, p).Maps()
	was := m.Flow.Lines()
	for i := range was {
		was[i].Wide = 100 + i
	}
	m.Flow, _ = flow.New(was)
	s, e := state.With(p, m)
	if e != api.OK {
		t.Fatal(e)
	}
	for i, c := range []struct {
		o        api.Op
		from, to int // the lines in which something is turned
	}{
		{edit(41, 42, "xyzxyzxyz"), 10, 11},
		{edits(api.Edit{From: 41, To: 42, Text: "q"}, api.Edit{From: 48, To: 48, Text: "r"}), 10, 13},
		{edits(api.Edit{From: 3, To: 3}, api.Edit{From: 41, To: 42, Text: "q"}, api.Edit{From: 60, To: 60}), 10, 11},
		{edit(41, 45, "\n\n\n"), 10, 12},
		{edit(7, 7, ""), 0, 51},
		{edits(), 0, 51},
		{fold(40, 43), 10, 11},
		{fold(43, 49), 10, 13},
		{unfold(81, 82), 20, 21},
		{unfold(82, 90), 20, 23},
		{unfold(88, 92), 22, 24},
		{unfold(8, 9), 2, 3},
		{add(in(9, 199, "v")), 49, 50},
		{add(in(9, 24, "v"), in(8, 33, "v")), 6, 9},
		{remove(2), 7, 8},
		{remove(2, 1), 5, 8},
		{api.Op{Kind: api.DoInlay, Remove: []int{3}, Add: []api.Inlay{in(3, 100, "v")}}, 25, 31},
		{add(), 0, 1},
		{wide(6), 0, 1},
		{tab(4), 0, 1},
		{wide(5), 0, 51},
		{tab(5), 0, 51},
	} {
		d, e := ops.Do(s, c.o)
		if e != api.OK {
			t.Fatalf("%d: %v", i, e)
		}
		want := made(t, d.State.Parts()).Maps().Flow.Lines()
		behind := len(was) - c.to
		copy(want[:c.from], was)
		copy(want[len(want)-behind:], was[c.to:])
		if got := d.State.Maps().Flow.Lines(); !slices.Equal(got, want) {
			t.Errorf("%d: %v: %v, not %v", i, c.o, got, want)
		}
	}
}
