package display_test

import (
	"math"
	"slices"
	"strings"
	"testing"
	"unicode/utf8"

	"bodkin/api"
	"bodkin/display"
	"bodkin/state"
)

// Operations in short.
var (
	undo = api.Op{Kind: api.DoUndo}
	redo = api.Op{Kind: api.DoRedo}
)

func edit(from, to int, s string) api.Op {
	return api.Op{Kind: api.DoEdit, Edits: []api.Edit{{From: from, To: to, Text: s}}}
}

func fold(a, b int) api.Op { return api.Op{Kind: api.DoFold, A: a, B: b} }

func unfold(a, b int) api.Op { return api.Op{Kind: api.DoUnfold, A: a, B: b} }

func add(l ...api.Inlay) api.Op { return api.Op{Kind: api.DoInlay, Add: l} }

func remove(l ...int) api.Op { return api.Op{Kind: api.DoInlay, Remove: l} }

// told does an operation, and tells what is wrong with its row patch.
func told(t *testing.T, d *display.Display, k *like, o api.Op, want api.RowPatch) {
	t.Helper()
	if r := play(t, d, k, o); r.Err != api.OK || r.Patch != want {
		t.Errorf("%v: %v, not %v", o, r, want)
	}
	hold(t, d, k)
}

// The document's example, and those of the whole.
func TestExamples(t *testing.T) {
	d, k := both(t, "ab", 4, 0)
	told(t, d, k, edit(1, 1, "\n"), rows(0, 1, 2))
	told(t, d, k, undo, rows(0, 2, 1))
	d, k = both(t, "ab\ncd", 4, 0)
	told(t, d, k, fold(1, 4), rows(0, 2, 1))
	d, k = both(t, "ab cd", 4, 3)
	told(t, d, k, edit(3, 4, "x"), rows(1, 2, 2))
	d, k = both(t, "abcd", 4, 0)
	told(t, d, k, add(api.Inlay{ID: 1, At: 3, Text: "x"}), rows(0, 1, 1))
	d, k = both(t, "ab\ncd", 4, 0)
	for _, o := range []api.Op{edit(0, 0, "x"), fold(1, 4), undo, redo} {
		if r := play(t, d, k, o); r.Err != api.OK {
			t.Errorf("%v: %v", o, r)
		}
	}
	if p := d.State().Parts(); p.Text.Text() != "xab\ncd" || !slices.Equal(p.Folds.All(), []api.Span{{From: 1, To: 4}}) {
		t.Errorf("%q, %v", p.Text.Text(), p.Folds.All())
	}
	d, k = both(t, "ab\u4e00cd", 4, 0)
	if r := play(t, d, k, fold(1, 3)); r != (api.Reply{Err: api.ErrMid}) {
		t.Errorf("%v", r)
	}
}

// 32.1: which texts, tabs and widths may be, and what is told first.
func TestNew(t *testing.T) {
	most := strings.Repeat("\u4e00", api.MaxText)
	for i, c := range []struct {
		text       string
		tab, width int
		e          api.Errno
	}{
		{"", 1, 0, api.OK},
		{"a\n", api.MaxTab, api.MaxWidth, api.OK},
		{"a\xff\xe4\xb8b\t", 4, 2, api.OK},
		{most, 4, 80, api.OK},
		{most + "a", 4, 80, api.ErrFull},
		{most + "a", 0, 80, api.ErrFull},
		{most + "a", 4, -1, api.ErrFull},
		{most, 0, 80, api.ErrArg},
		{"", 0, 0, api.ErrArg},
		{"", -1, 0, api.ErrArg},
		{"", api.MaxTab + 1, 0, api.ErrArg},
		{"", 4, -1, api.ErrArg},
		{"", 4, api.MaxWidth + 1, api.ErrArg},
		{"", math.MinInt, math.MaxInt, api.ErrArg},
		{"", math.MaxInt, math.MinInt, api.ErrArg},
	} {
		d, e := display.New(c.text, c.tab, c.width)
		if e != c.e || (d == nil) != (e != api.OK) {
			t.Errorf("%d: New: %v, not %v", i, e, c.e)
		}
		if d != nil {
			_, k := both(t, c.text, c.tab, c.width)
			hold(t, d, k)
			for _, o := range []api.Op{undo, redo} {
				if r := d.Do(o); r != (api.Reply{Err: api.ErrNone}) {
					t.Errorf("%d: %v: %v", i, o, r)
				}
			}
		}
	}
}

// 32.1: the errors of each kind, in their order; they turn neither the state nor what undoes.
func TestErrors(t *testing.T) {
	in := func(id, at int, s string) api.Inlay { return api.Inlay{ID: id, At: at, Text: s} }
	edits := func(l ...api.Edit) api.Op { return api.Op{Kind: api.DoEdit, Edits: l} }
	for i, c := range []struct {
		o api.Op
		e api.Errno
	}{
		// The text is a, b, 4e00 at the bytes 2 to 5, a break, c: 7 bytes, 5 runes.
		{edit(-1, 0, ""), api.ErrArg},
		{edit(0, 4, ""), api.ErrMid},
		{edit(5, 2, ""), api.ErrArg},
		{edits(api.Edit{From: 5, To: 6}, api.Edit{From: 2, To: 2}), api.ErrOrder},
		{edits(api.Edit{From: 5, To: 2}, api.Edit{From: 2, To: 3}), api.ErrMid},
		{edit(5, 6, strings.Repeat("a", api.MaxText)), api.ErrFull},
		{edits(make([]api.Edit, api.MaxEdits+1)...), api.ErrLong},
		{fold(-1, 3), api.ErrArg},
		{fold(0, 3), api.ErrMid},
		{fold(2, 2), api.ErrArg},
		{fold(2, 5), api.ErrSame},
		{unfold(3, -1), api.ErrMid},
		{unfold(5, 2), api.ErrArg},
		{add(slices.Repeat([]api.Inlay{in(-1, -1, "")}, api.MaxInlays+1)...), api.ErrFull},
		{add(in(0, 3, "")), api.ErrMid},
		{api.Op{Kind: api.DoInlay, Remove: []int{9}, Add: []api.Inlay{in(2, 5, "")}}, api.ErrNone},
		{add(in(0, 5, "x")), api.ErrArg},
		{add(in(2, 5, strings.Repeat("x", api.MaxInlay+1))), api.ErrLong},
		{add(in(2, 5, "x\n")), api.ErrForm},
		{add(in(1, 5, "x")), api.ErrSame},
		{remove(1, 1), api.ErrNone},
		{api.Op{Kind: api.DoWidth, A: -1}, api.ErrArg},
		{api.Op{Kind: api.DoWidth, A: api.MaxWidth + 1}, api.ErrArg},
		{api.Op{Kind: api.DoTab, A: 0}, api.ErrArg},
		{api.Op{Kind: api.DoTab, A: api.MaxTab + 1}, api.ErrArg},
		{redo, api.ErrNone},
		{api.Op{}, api.ErrForm},
		{api.Op{Kind: -1}, api.ErrForm},
		{api.Op{Kind: 9, A: -1, Edits: make([]api.Edit, 99)}, api.ErrForm},
		{api.Op{Kind: math.MinInt}, api.ErrForm},
	} {
		d, k := both(t, "ab\u4e00\n", 4, 3)
		for _, o := range []api.Op{edit(6, 6, "c"), fold(2, 5), add(in(1, 6, "in"))} {
			play(t, d, k, o)
		}
		s := d.State()
		if r := play(t, d, k, c.o); r != (api.Reply{Err: c.e}) || d.State() != s {
			t.Errorf("%d: %v, not %v", i, r, c.e)
		}
		hold(t, d, k)
		for _, o := range []api.Op{undo, c.o, redo, redo, undo} {
			play(t, d, k, o)
			hold(t, d, k)
		}
	}
}

// 32.1: what an operation does not look at is as may be.
func TestOtherFields(t *testing.T) {
	all := api.Op{A: 1, B: 2, Edits: []api.Edit{{From: 1, To: 2, Text: "x\ny"}}, Remove: []int{1}, Add: []api.Inlay{{ID: 2, At: 2, Text: "z"}}}
	for kind := range 11 {
		d, k := both(t, "a b", 4, 3)
		for _, o := range []api.Op{edit(0, 0, "c\t"), add(api.Inlay{ID: 1, At: 1, Text: "in"}), fold(0, 1), undo} {
			play(t, d, k, o)
		}
		all.Kind = kind
		play(t, d, k, all)
		hold(t, d, k)
	}
}

// 32.1: how many folds were removed is told of DoUnfold alone.
func TestHowMany(t *testing.T) {
	d, k := both(t, "abcdef", 4, 0)
	for i, c := range []struct {
		o api.Op
		n int
	}{
		{fold(0, 2), 0}, {fold(1, 3), 0}, {fold(5, 6), 0}, {unfold(4, 4), 0}, {unfold(2, 4), 2}, {edit(0, 1, "x"), 0}, {undo, 0}, {redo, 0}, {unfold(0, 6), 1}, {unfold(0, 6), 0},
	} {
		if r := play(t, d, k, c.o); r.N != c.n || r.Err != api.OK {
			t.Errorf("%d: %v: %v, not %d", i, c.o, r, c.n)
		}
	}
}

// 32.1: the row patch of a step that is done again with its inlays and folds is of all rows; of another one, and of one that is undone, of what is applied.
func TestPatchOfRedo(t *testing.T) {
	start := func() (*display.Display, *like) {
		d, k := both(t, "a\na\na\na", 4, 0)
		told(t, d, k, edit(2, 2, "a\n"), rows(2, 2, 3)) // ahead of the second row, which is laid out
		told(t, d, k, undo, rows(2, 3, 2))
		return d, k
	}
	again, applied := rows(4, 4, 5), rows(2, 2, 3)
	for i, c := range []struct {
		between []api.Op
		want    api.RowPatch
	}{
		{nil, again},
		{[]api.Op{redo, undo}, again},
		{[]api.Op{fold(1, 1), {Kind: api.DoTab}, undo}, again}, // errors
		{[]api.Op{{Kind: api.DoWidth, A: 3}, {Kind: api.DoTab, A: 3}}, again},
		{[]api.Op{fold(0, 1), unfold(0, 1)}, applied},
		{[]api.Op{unfold(0, 1)}, applied},
		{[]api.Op{add()}, applied},
		{[]api.Op{fold(0, 1), unfold(0, 1), redo, undo}, again},
	} {
		d, k := start()
		for _, o := range c.between {
			play(t, d, k, o)
		}
		if r := play(t, d, k, redo); r != (api.Reply{Patch: c.want}) {
			t.Errorf("%d: %v, not %v", i, r, c.want)
		}
		hold(t, d, k)
	}
}

// 32.1: inlays and folds that are there again far from what is edited are in the row patch.
func TestPatchOfSetsAgain(t *testing.T) {
	d, k := both(t, "ab\ncd\nef\ngh", 4, 0)
	told(t, d, k, fold(10, 11), rows(3, 4, 4))
	told(t, d, k, add(api.Inlay{ID: 1, At: 1, Text: "x"}), rows(0, 1, 1))
	told(t, d, k, edit(3, 3, "AB\nCD"), rows(1, 2, 3))
	told(t, d, k, fold(3, 8), rows(1, 3, 2))
	told(t, d, k, add(api.Inlay{ID: 2, At: 7, Bias: api.Right, Text: "y"}), rows(2, 2, 2)) // within what is hidden
	told(t, d, k, undo, rows(1, 2, 2))
	if p := d.State().Parts(); len(p.Folds.All()) != 1 || p.Inlays.All()[1].At != 3 {
		t.Errorf("%v, %v", p.Folds.All(), p.Inlays.All())
	}
	told(t, d, k, redo, rows(1, 2, 2))
	if p := d.State().Parts(); len(p.Folds.All()) != 2 || p.Inlays.All()[1].At != 7 {
		t.Errorf("%v, %v", p.Folds.All(), p.Inlays.All())
	}
}

// byteAt is the byte of a place.
func byteAt(t *testing.T, d *display.Display, at int) int {
	t.Helper()
	n, e := d.State().Parts().Text.ByteAt(at)
	if e != api.OK {
		t.Fatalf("ByteAt(%d): %v", at, e)
	}
	return n
}

// 32.2: as many edits, runes, folds, inlays and steps as there may be, and one more.
func TestMost(t *testing.T) {
	d, k := both(t, strings.Repeat("ab", api.MaxEdits), 4, 20)
	held := func(o api.Op, e api.Errno) {
		t.Helper()
		if r := play(t, d, k, o); r.Err != e {
			t.Fatalf("%v, not %v", r, e)
		}
	}
	var l []api.Edit
	for i := range api.MaxEdits {
		l = append(l, api.Edit{From: 2 * i, To: 2*i + 1, Text: "\u4e00\n"})
	}
	held(api.Op{Kind: api.DoEdit, Edits: l}, api.OK)
	for i := range api.MaxFolds {
		held(fold(byteAt(t, d, 2*i), byteAt(t, d, 2*i+1)), api.OK)
	}
	held(fold(0, 4), api.ErrFull)
	var in []api.Inlay
	for i := range api.MaxInlays {
		in = append(in, api.Inlay{ID: 1 + i, At: byteAt(t, d, i), Text: "\u4e00"})
	}
	held(add(in...), api.OK)
	held(add(api.Inlay{ID: 99, Text: "x"}), api.ErrFull)
	hold(t, d, k)
	for i := range api.MaxUndo - 1 {
		held(edit(byteAt(t, d, i), byteAt(t, d, i+1), "z"), api.OK)
	}
	hold(t, d, k)
	for range api.MaxUndo {
		held(undo, api.OK)
	}
	hold(t, d, k)
	held(undo, api.ErrNone)
	for range api.MaxUndo {
		held(redo, api.OK)
	}
	held(redo, api.ErrNone)
	hold(t, d, k)
	n := d.State().Parts().Text.Runes()
	held(edit(0, 0, strings.Repeat("\n", api.MaxText-n+1)), api.ErrFull)
	held(edit(0, 0, strings.Repeat("\n", api.MaxText-n)), api.OK)
	held(edit(0, 1, "xy"), api.ErrFull)
	if n, m := d.Steps(); n != api.MaxUndo || m != 0 { // the eldest one is gone
		t.Errorf("Steps: %d, %d", n, m)
	}
	held(undo, api.OK)
	held(redo, api.OK)
	hold(t, d, k)
}

// scripts calls do with all scripts of n of some operations.
func scripts(l []api.Op, n int, do func([]api.Op)) {
	script := make([]api.Op, n)
	var grow func(i int)
	grow = func(i int) {
		if i == n {
			do(script)
			return
		}
		for _, o := range l {
			script[i] = o
			grow(i + 1)
		}
	}
	grow(0)
}

// 32.1 to 32.3: all short scripts.
func TestAllShortScripts(t *testing.T) {
	wide := []api.Op{
		edit(1, 1, "x"), edit(0, 2, "\n"), edit(1, 3, ""), {Kind: api.DoEdit, Edits: []api.Edit{{From: 0, To: 1, Text: "yz"}, {From: 1, To: 1, Text: "w"}, {From: 2, To: 3}}},
		fold(1, 3), fold(2, 1), unfold(0, 1), add(api.Inlay{ID: 1, At: 2, Bias: api.Right, Text: "i"}), remove(1),
		undo, redo, {Kind: api.DoWidth, A: 2}, {Kind: api.DoTab, A: 3},
	}
	narrow := []api.Op{edit(1, 2, "xy"), fold(1, 3), unfold(1, 1), undo, redo}
	for _, c := range []struct {
		l []api.Op
		n int
	}{{wide, 1}, {wide, 2}, {wide, 3}, {narrow, 4}, {narrow, 5}} {
		scripts(c.l, c.n, func(script []api.Op) {
			d, k := both(t, "a\tb\nc", 4, 0)
			for _, o := range script {
				play(t, d, k, o)
			}
			hold(t, d, k)
		})
	}
}

// some is an operation of some seed; some of its bytes are none of the text, or within a rune.
func some(text string, seed int) api.Op {
	at := func(i int) int {
		n := mix(20*seed+i, len(text)+1)
		if mix(20*seed+i+1, 30) == 0 {
			return n - 2 + mix(20*seed+i+2, 5)
		}
		for n < len(text) && !utf8.RuneStart(text[n]) {
			n++
		}
		return n
	}
	o := api.Op{Kind: 1 + mix(seed, 9), A: at(0), B: at(3)}
	if o.A > o.B && mix(seed+1, 8) > 0 {
		o.A, o.B = o.B, o.A
	}
	switch o.Kind {
	case api.DoEdit:
		o.Edits = someEdits(at, seed)
	case api.DoInlay:
		for i := range mix(seed+2, 3) {
			o.Add = append(o.Add, api.Inlay{ID: mix(seed+3+i, 20), At: at(6 + 3*i), Bias: mix(seed+5+i, 2), Key: mix(seed+7+i, 3), Text: []string{"i", "\u4e00\xff", "\t ", "xy z", ""}[mix(seed+9+i, 5)]})
		}
		for i := range mix(seed+11, 2) {
			o.Remove = append(o.Remove, mix(seed+12+i, 20))
		}
	case api.DoWidth:
		o.A = mix(seed+2, 14) - 1
	case api.DoTab:
		o.A = mix(seed+2, api.MaxTab+3)
	case 9:
		o.Kind = []int{api.DoUndo, api.DoRedo, api.DoRedo, api.DoRedo, 0}[mix(seed+2, 5)]
	}
	return o
}

// someEdits are up to three edits, most of which rise.
func someEdits(at func(i int) int, seed int) []api.Edit {
	var ends []int
	for i := range 2 * mix(seed+2, 4) {
		ends = append(ends, at(6+i))
	}
	if mix(seed+3, 10) > 0 {
		slices.Sort(ends)
	}
	var l []api.Edit
	for i := 0; i < len(ends); i += 2 {
		l = append(l, api.Edit{From: ends[i], To: ends[i+1], Text: []string{"", "a", "b\n", "\t\u4e00", " cd ", "\xe4\xb8"}[mix(seed+4+i, 6)]})
	}
	return l
}

// 32.1 to 32.4: scripts of all kinds of operations; what was told of a state stays to the end.
func TestSomeScripts(t *testing.T) {
	seen := map[[2]int]int{}
	again := 0 // how many steps were done again with sets that are not those of what is applied
	for seed := range 150 {
		text := strings.Repeat([]string{"", "ab cd\n", "\u4e00\xff\t", "  x yz\n\n"}[mix(seed, 4)], 1+mix(seed+1, 5))
		d, k := both(t, text, 1+mix(seed+2, 8), mix(seed+3, 12))
		var kept []snap
		for i := range 60 {
			kept = append(kept, snapOf(t, d.State()))
			o := some(d.State().Parts().Text.Text(), 1000*seed+i)
			before := d.State()
			r := play(t, d, k, o)
			seen[[2]int{o.Kind, int(r.Err)}]++
			hold(t, d, k)
			if mix(seed+i, 4) == 0 {
				again += holdBack(t, d, k)
			}
			if r.Err != api.OK && r != (api.Reply{Err: r.Err}) {
				t.Fatalf("%v beside an error: %v, %v", o, r, before)
			}
		}
		for i, x := range kept {
			if !x.stays(t) {
				t.Fatalf("seed %d: the state %d has changed", seed, i)
			}
		}
	}
	for kind, l := range [][]api.Errno{
		api.DoEdit:   {api.OK, api.ErrArg, api.ErrMid, api.ErrOrder},
		api.DoFold:   {api.OK, api.ErrArg, api.ErrMid, api.ErrSame},
		api.DoUnfold: {api.OK, api.ErrArg, api.ErrMid},
		api.DoInlay:  {api.OK, api.ErrArg, api.ErrMid, api.ErrNone, api.ErrSame, api.ErrForm},
		api.DoWidth:  {api.OK, api.ErrArg},
		api.DoTab:    {api.OK, api.ErrArg},
		api.DoUndo:   {api.OK, api.ErrNone},
		api.DoRedo:   {api.OK, api.ErrNone},
	} {
		for _, e := range l {
			if seen[[2]int{kind, int(e)}] < 3 {
				t.Errorf("the kind %d has told %v only %d times", kind, e, seen[[2]int{kind, int(e)}])
			}
		}
	}
	if again < 20 {
		t.Errorf("only %d steps were done again with other sets than what is applied has", again)
	}
}

// snap is a state, and what it has told.
type snap struct {
	s    *state.State
	p    state.Parts
	text string
	in   []api.Inlay
	shut []api.Span
	rows []api.Row
}

func snapOf(t *testing.T, s *state.State) snap {
	t.Helper()
	p := s.Parts()
	return snap{s, p, p.Text.Text(), p.Inlays.All(), p.Folds.All(), rowsOf(t, s)}
}

// stays tells whether a state still tells what it has told.
func (x snap) stays(t *testing.T) bool {
	t.Helper()
	p := x.s.Parts()
	return p == x.p && p.Text.Text() == x.text && slices.Equal(p.Inlays.All(), x.in) && slices.Equal(p.Folds.All(), x.shut) && slices.EqualFunc(rowsOf(t, x.s), x.rows, same) && x.s.Sound()
}

// holdBack tells what undo, and redo at once behind it, have changed; it answers 1, if inlays or folds are there again that would not be by what is applied.
func holdBack(t *testing.T, d *display.Display, k *like) int {
	t.Helper()
	x := snapOf(t, d.State())
	if r := play(t, d, k, undo); r.Err != api.OK {
		return 0
	}
	hold(t, d, k)
	n, m := len(d.State().Parts().Inlays.All()), len(d.State().Parts().Folds.All())
	play(t, d, k, redo)
	hold(t, d, k)
	y := snapOf(t, d.State())
	if y.text != x.text || !slices.Equal(y.in, x.in) || !slices.Equal(y.shut, x.shut) || !slices.EqualFunc(y.rows, x.rows, same) {
		t.Fatalf("undo and redo of %q, %v, %v make %q, %v, %v", x.text, x.in, x.shut, y.text, y.in, y.shut)
	}
	if n < len(y.in) || m < len(y.shut) {
		return 1
	}
	return 0
}

// P7: behind batches, with all else between, as many times undo is the text ahead of the first one; and redo the one behind the last one.
func TestUndoOfMany(t *testing.T) {
	for seed := range 20 {
		d, k := both(t, strings.Repeat("ab\u4e00 \n", 3), 4, 5)
		text := func() string { return d.State().Parts().Text.Text() }
		texts := []string{text()}
		for i := 0; len(texts) < 2+mix(seed+1, api.MaxUndo); i++ {
			o := some(text(), 500*seed+7*i)
			if o.Kind == api.DoUndo || o.Kind == api.DoRedo {
				continue
			}
			if r := play(t, d, k, o); r.Err == api.OK && o.Kind == api.DoEdit {
				texts = append(texts, text())
			}
		}
		behind := snapOf(t, d.State())
		for i, s := range slices.Backward(texts) {
			if text() != s {
				t.Fatalf("seed %d, %d: %q, not %q", seed, i, text(), s)
			}
			if i > 0 {
				play(t, d, k, undo)
				hold(t, d, k)
			}
		}
		for range texts[1:] {
			play(t, d, k, redo)
			hold(t, d, k)
		}
		if now := snapOf(t, d.State()); now.text != behind.text || !slices.Equal(now.in, behind.in) || !slices.Equal(now.shut, behind.shut) || !slices.EqualFunc(now.rows, behind.rows, same) {
			t.Fatalf("seed %d: %q, not %q", seed, now.text, behind.text)
		}
	}
}

// A nil display has nothing; no call dies of one that New has not made.
func TestNilDisplay(t *testing.T) {
	var none *display.Display
	var zero display.Display
	for kind := -1; kind < 11; kind++ {
		for _, o := range []api.Op{{Kind: kind}, {Kind: kind, A: 1, B: 2, Edits: []api.Edit{{From: -1, Text: "x"}}, Remove: []int{1}, Add: []api.Inlay{{ID: 1, Text: "x"}}}} {
			if r := none.Do(o); r != (api.Reply{Err: api.ErrState}) {
				t.Errorf("%v: %v", o, r)
			}
			if r := zero.Do(o); r != (api.Reply{Err: r.Err}) || r.Err == api.OK {
				t.Errorf("%v of the zero display: %v", o, r)
			}
		}
	}
	for _, d := range []*display.Display{none, &zero} {
		if n, m := d.Steps(); n != 0 || m != 0 || d.State() != nil {
			t.Errorf("%d, %d, %v", n, m, d.State())
		}
	}
}

// R3: what is handed in stays as it is, spare room too, and is not kept.
func TestNothingIsShared(t *testing.T) {
	l := append(make([]api.Edit, 0, 4), api.Edit{From: 3, To: 6, Text: "x"}, api.Edit{From: 6, To: 6, Text: "y"})
	adds := append(make([]api.Inlay, 0, 4), api.Inlay{ID: 2, At: 3, Text: "p"}, api.Inlay{ID: 1, At: 4, Text: "q"})
	gone := append(make([]int, 0, 4), 1)
	wasEdits, wasAdds, wasGone := slices.Clone(l[:4]), slices.Clone(adds[:4]), slices.Clone(gone[:4])
	d, k := both(t, "\u4e00bcd\n e\t", 4, 3)
	for _, o := range []api.Op{{Kind: api.DoInlay, Add: adds}, {Kind: api.DoInlay, Remove: gone}, {Kind: api.DoEdit, Edits: l}, fold(3, 5)} {
		if r := play(t, d, k, o); r.Err != api.OK {
			t.Fatalf("%v: %v", o, r)
		}
		if !slices.Equal(l[:4], wasEdits) || !slices.Equal(adds[:4], wasAdds) || !slices.Equal(gone[:4], wasGone) {
			t.Fatalf("what was handed in has changed: %v, %v, %v", l[:4], adds[:4], gone[:4])
		}
	}
	clear(l[:4])
	clear(adds[:4])
	clear(gone[:4])
	r := rowsOf(t, d.State())
	for _, x := range r {
		clear(x.Cells[:cap(x.Cells)])
	}
	clear(r[:cap(r)])
	hold(t, d, k)
	for _, o := range []api.Op{undo, redo, undo, fold(0, 3), redo} {
		play(t, d, k, o)
		hold(t, d, k)
	}
}

// R6: one display knows nothing of another one.
func TestDisplaysApart(t *testing.T) {
	a, k := both(t, "ab\ncd", 4, 0)
	b, l := both(t, "ab\ncd", 4, 0)
	for i := range 300 {
		if mix(i, 2) == 0 {
			play(t, a, k, some(k.m.Text(), 2*i))
		} else {
			play(t, b, l, some(l.m.Text(), 3*i))
		}
		hold(t, a, k)
		hold(t, b, l)
	}
}
