package model_test

import (
	"math"
	"slices"
	"strings"
	"testing"
	"unicode/utf8"

	"bodkin/api"
	"bodkin/model"
)

// mix is a number from 0 to below n that is hard to foresee and ever the same.
func mix(seed, n int) int {
	x := uint64(seed)*0x9e3779b97f4a7c15 + 0x632be59bd9b4e019
	x ^= x >> 29
	x *= 0xbf58476d1ce4e5b9
	x ^= x >> 32
	return int(x % uint64(n))
}

// newModel is a model that there may be.
func newModel(t *testing.T, text string, tab, width int) *model.Model {
	t.Helper()
	m, e := model.New(text, tab, width)
	if e != api.OK || m == nil {
		t.Fatalf("New(%q, %d, %d): %v", text, tab, width, e)
	}
	return m
}

// both are a model, and what it is held against.
func both(t *testing.T, text string, tab, width int) (*model.Model, *like) {
	t.Helper()
	m, k := newModel(t, text, tab, width), newLike(text, tab, width)
	hold(t, m, k)
	return m, k
}

// Operations in short.
var (
	undo = api.Op{Kind: api.DoUndo}
	redo = api.Op{Kind: api.DoRedo}
)

func edit(from, to int, s string) api.Op {
	return api.Op{Kind: api.DoEdit, Edits: []api.Edit{{From: from, To: to, Text: s}}}
}

func fold(a, b int) api.Op { return api.Op{Kind: api.DoFold, A: a, B: b} }

func unfold(a, b int) api.Op { return api.Op{Kind: api.DoUnfold, A: a, B: b} }

func add(l ...api.Inlay) api.Op { return api.Op{Kind: api.DoInlay, Add: l} }

func remove(l ...int) api.Op { return api.Op{Kind: api.DoInlay, Remove: l} }

// told does an operation that should tell an error.
func told(t *testing.T, m *model.Model, o api.Op, want api.Errno) {
	t.Helper()
	if r := m.Do(o); r != (api.Reply{Err: want}) {
		t.Fatalf("Do(%v) of %q: %v, not %v", o, m.Text(), r, want)
	}
}

// done does operations that should tell no error.
func done(t *testing.T, m *model.Model, l ...api.Op) {
	t.Helper()
	for _, o := range l {
		if r := m.Do(o); r.Err != api.OK || r.Patch != (api.RowPatch{}) {
			t.Fatalf("Do(%v) of %q: %v", o, m.Text(), r)
		}
	}
}

// The document's examples.
func TestExamples(t *testing.T) {
	m := newModel(t, "ab", 4, 0)
	done(t, m, edit(1, 1, "x"), undo, redo)
	if m.Text() != "axb" {
		t.Errorf("%q", m.Text())
	}
	// Examples of the whole.
	m = newModel(t, "ab\ncd", 4, 0)
	done(t, m, fold(1, 4))
	if l := m.Rows(); len(l) != 1 || l[0].Width != 3 || !l[0].Folded || l[0].Cells[1].Kind != api.Folded {
		t.Errorf("%v", l)
	}
	m = newModel(t, "ab cd", 4, 3)
	if l := m.Rows(); len(l) != 2 || l[0].Width != 3 || l[1].Width != 2 {
		t.Errorf("%v", l)
	}
	m = newModel(t, "a\tb", 4, 0)
	if l := m.Rows(); len(l) != 1 || l[0].Width != 5 {
		t.Errorf("%v", l)
	}
	m = newModel(t, "ab\u4e00cd", 4, 0)
	told(t, m, fold(1, 3), api.ErrMid)
	if len(m.Folds()) > 0 {
		t.Errorf("%v", m.Folds())
	}
}

// 26.1: which texts, tabs and widths may be, and what is told first.
func TestNew(t *testing.T) {
	most := strings.Repeat("\u4e00", api.MaxText)
	for i, c := range []struct {
		text     string
		tab, wid int
		e        api.Errno
	}{
		{"", 1, 0, api.OK},
		{"a\n", api.MaxTab, api.MaxWidth, api.OK},
		{most, 4, 80, api.OK},
		{most + "a", 4, 80, api.ErrFull},
		{most + "a", 0, 80, api.ErrFull},
		{most + "a", 4, -1, api.ErrFull},
		{most, 0, 80, api.ErrArg},
		{"", 0, 0, api.ErrArg},
		{"", -1, 0, api.ErrArg},
		{"", api.MaxTab + 1, 0, api.ErrArg},
		{"", 4, -1, api.ErrArg},
		{"", 4, api.MaxWidth + 1, api.ErrArg},
		{"", math.MinInt, math.MaxInt, api.ErrArg},
		{"", math.MaxInt, math.MinInt, api.ErrArg},
	} {
		m, e := model.New(c.text, c.tab, c.wid)
		if e != c.e || (m == nil) != (e != api.OK) {
			t.Errorf("%d: New: %v, not %v", i, e, c.e)
		}
		if m != nil {
			hold(t, m, newLike(c.text, c.tab, c.wid))
			told(t, m, undo, api.ErrNone)
			told(t, m, redo, api.ErrNone)
		}
	}
}

// 26.1: bytes that are no rune's are one api.Bad each, of three bytes.
func TestTextIsClean(t *testing.T) {
	m, k := both(t, "a\xff\xe4\xb8b", 4, 0)
	if m.Text() != "a\ufffd\ufffd\ufffdb" {
		t.Fatalf("Text: %q", m.Text())
	}
	for _, o := range []api.Op{fold(1, 3), fold(4, 7), edit(4, 4, "\xe4"), edit(7, 7, "\xb8\x80"), add(api.Inlay{ID: 1, At: 10, Text: "\xff"}), undo, undo, redo} {
		play(t, m, k, o)
		hold(t, m, k)
	}
}

// 26.1: the errors of each kind, in their order.
func TestErrors(t *testing.T) {
	in := func(id, at int, s string) api.Inlay { return api.Inlay{ID: id, At: at, Text: s} }
	long := strings.Repeat("x", api.MaxInlay+1)
	edits := func(l ...api.Edit) api.Op { return api.Op{Kind: api.DoEdit, Edits: l} }
	for i, c := range []struct {
		o api.Op
		e api.Errno
	}{
		// The text is a, b, 4e00 at the bytes 2 to 5, a break, c: 7 bytes, 5 runes.
		{edit(-1, 0, ""), api.ErrArg},
		{edit(8, 8, ""), api.ErrArg},
		{edit(0, 8, ""), api.ErrArg},
		{edit(3, 8, ""), api.ErrMid},
		{edit(8, 3, ""), api.ErrArg},
		{edit(0, 4, ""), api.ErrMid},
		{edit(5, 2, ""), api.ErrArg},
		{edit(math.MinInt, math.MaxInt, ""), api.ErrArg},
		{edits(api.Edit{From: 5, To: 6}, api.Edit{From: 2, To: 2}), api.ErrOrder},
		{edits(api.Edit{From: 5, To: 6}, api.Edit{From: 2, To: 3}), api.ErrMid},
		{edits(api.Edit{From: 5, To: 2}, api.Edit{From: 2, To: 3}), api.ErrMid}, // all places ahead of batch.Check
		{edits(api.Edit{From: 5, To: 2}, api.Edit{From: 1, To: 1}), api.ErrArg},
		{edits(api.Edit{From: 5, To: 6}, api.Edit{From: 2, To: 1}), api.ErrArg},
		{edits(api.Edit{From: 5, To: 6, Text: strings.Repeat("a", api.MaxText)}, api.Edit{From: 2, To: 2}), api.ErrOrder},
		{edits(api.Edit{From: 5, To: 6, Text: strings.Repeat("a", api.MaxText)}), api.ErrFull},
		{edits(api.Edit{From: 3, To: 3, Text: strings.Repeat("a", api.MaxText)}), api.ErrMid},
		{edits(make([]api.Edit, api.MaxEdits+1)...), api.ErrLong},
		{edits(slices.Repeat([]api.Edit{{From: 3, To: -1}}, api.MaxEdits+1)...), api.ErrLong},
		{fold(-1, 3), api.ErrArg},
		{fold(3, -1), api.ErrMid},
		{fold(0, 3), api.ErrMid},
		{fold(0, 8), api.ErrArg},
		{fold(8, 3), api.ErrArg},
		{fold(2, 2), api.ErrArg},
		{fold(5, 2), api.ErrArg},
		{fold(2, 5), api.ErrSame},
		{unfold(-1, 3), api.ErrArg},
		{unfold(3, -1), api.ErrMid},
		{unfold(0, 4), api.ErrMid},
		{unfold(0, 8), api.ErrArg},
		{unfold(5, 2), api.ErrArg},
		{unfold(7, 0), api.ErrArg},
		{add(slices.Repeat([]api.Inlay{in(-1, -1, "")}, api.MaxInlays+1)...), api.ErrFull},
		{add(in(0, 3, "")), api.ErrMid},
		{add(in(0, 8, "")), api.ErrArg},
		{add(in(2, 5, "x"), in(2, 4, "x")), api.ErrMid},
		{add(in(2, 8, "x"), in(2, 4, "x")), api.ErrArg},
		{add(in(2, 5, ""), in(2, 4, "x")), api.ErrMid},
		{api.Op{Kind: api.DoInlay, Remove: []int{9}, Add: []api.Inlay{in(2, 4, "x")}}, api.ErrMid},
		{api.Op{Kind: api.DoInlay, Remove: []int{9}, Add: []api.Inlay{in(2, 5, "")}}, api.ErrNone},
		{remove(9), api.ErrNone},
		{remove(1, 1), api.ErrNone},
		{api.Op{Kind: api.DoInlay, Remove: []int{9}, Add: slices.Repeat([]api.Inlay{in(2, 4, "x")}, api.MaxInlays+1)}, api.ErrFull},
		{add(slices.Repeat([]api.Inlay{in(2, 5, "")}, api.MaxInlays)...), api.ErrFull}, // with the one that is there
		{add(in(0, 5, "x")), api.ErrArg},
		{add(api.Inlay{ID: 2, At: 5, Bias: 2, Text: "x"}), api.ErrArg},
		{add(in(2, 5, long)), api.ErrLong},
		{add(in(2, 5, "")), api.ErrForm},
		{add(in(2, 5, "x\n")), api.ErrForm},
		{add(in(1, 5, "x")), api.ErrSame},
		{add(in(2, 5, "x"), in(2, 5, "x")), api.ErrSame},
		{api.Op{Kind: api.DoWidth, A: -1}, api.ErrArg},
		{api.Op{Kind: api.DoWidth, A: api.MaxWidth + 1}, api.ErrArg},
		{api.Op{Kind: api.DoWidth, A: math.MinInt}, api.ErrArg},
		{api.Op{Kind: api.DoTab, A: 0}, api.ErrArg},
		{api.Op{Kind: api.DoTab, A: api.MaxTab + 1}, api.ErrArg},
		{api.Op{Kind: api.DoTab, A: math.MaxInt}, api.ErrArg},
		{redo, api.ErrNone},
		{api.Op{}, api.ErrForm},
		{api.Op{Kind: -1}, api.ErrForm},
		{api.Op{Kind: 9, A: -1, Edits: make([]api.Edit, 99)}, api.ErrForm},
		{api.Op{Kind: math.MaxInt}, api.ErrForm},
	} {
		m, k := both(t, "ab\u4e00\n", 4, 3)
		for _, o := range []api.Op{edit(6, 6, "c"), fold(2, 5), add(in(1, 6, "in"))} {
			play(t, m, k, o)
		}
		if _, e := k.do(c.o); e != c.e {
			t.Fatalf("%d: by the words %v is told, not %v", i, e, c.e)
		}
		told(t, m, c.o, c.e)
		hold(t, m, k)
		for _, o := range []api.Op{undo, c.o, redo, redo, undo} { // nor is what undoes changed
			play(t, m, k, o)
			hold(t, m, k)
		}
	}
}

// 26.1: what an operation does not look at is as may be.
func TestOtherFields(t *testing.T) {
	all := api.Op{A: 1, B: 2, Edits: []api.Edit{{From: 1, To: 2, Text: "x\ny"}}, Remove: []int{1}, Add: []api.Inlay{{ID: 2, At: 2, Text: "z"}}}
	for kind := range 11 {
		m, k := both(t, "a b", 4, 3)
		for _, o := range []api.Op{edit(0, 0, "c\t"), add(api.Inlay{ID: 1, At: 1, Text: "in"}), fold(0, 1), undo} {
			play(t, m, k, o)
		}
		all.Kind = kind
		play(t, m, k, all)
		hold(t, m, k)
	}
}

// 26.1: as many edits, runes, folds, inlays and steps as there may be, and one more.
func TestMost(t *testing.T) {
	m, k := both(t, strings.Repeat("ab", api.MaxEdits), 4, 20)
	var edits []api.Edit
	for i := range api.MaxEdits {
		edits = append(edits, api.Edit{From: 2 * i, To: 2*i + 1, Text: "\u4e00\n"})
	}
	held := func(o api.Op, e api.Errno) {
		t.Helper()
		if f := play(t, m, k, o); f != e {
			t.Fatalf("%v, not %v", f, e)
		}
	}
	held(api.Op{Kind: api.DoEdit, Edits: edits}, api.OK)
	hold(t, m, k)
	n := utf8.RuneCountInString(m.Text())
	held(edit(0, 0, strings.Repeat("x", api.MaxText-n+1)), api.ErrFull)
	held(edit(0, 0, strings.Repeat("x", api.MaxText-n)), api.OK)
	held(edit(0, 1, "xy"), api.ErrFull)
	held(edit(0, 1, "y"), api.OK)
	for i := range api.MaxFolds {
		held(fold(2*i, 2*i+1), api.OK)
	}
	held(fold(200, 200), api.ErrFull)
	held(fold(200, 201), api.ErrFull)
	held(unfold(7, 9), api.OK)
	held(fold(200, 201), api.OK)
	var l []api.Inlay
	for i := range api.MaxInlays {
		l = append(l, api.Inlay{ID: 1 + i, At: i, Text: strings.Repeat("\u4e00", api.MaxInlay)})
	}
	held(add(l...), api.OK)
	held(add(api.Inlay{ID: 99, Text: "x"}), api.ErrFull)
	held(api.Op{Kind: api.DoInlay, Remove: []int{5}, Add: []api.Inlay{{ID: 99, Text: "x"}}}, api.OK)
	hold(t, m, k)
	for i := range api.MaxUndo - 1 {
		held(edit(i, i+1, "z"), api.OK)
	}
	for range api.MaxUndo {
		held(undo, api.OK)
	}
	hold(t, m, k)
	held(undo, api.ErrNone)
	for range api.MaxUndo {
		held(redo, api.OK)
	}
	held(redo, api.ErrNone)
	hold(t, m, k)
}

// 26.1: inlays and folds are those again that there were when a step was undone, if none came or went since.
func TestRedoHasSetsAgain(t *testing.T) {
	x := api.Inlay{ID: 1, At: 3, Text: "x"}
	was := []api.Op{edit(1, 3, "QRS"), fold(2, 4), add(x)} // all within what undo takes away
	for i, c := range []struct {
		between []api.Op
		again   bool
	}{
		{[]api.Op{undo, redo}, true},
		{[]api.Op{undo, {Kind: api.DoWidth, A: 1}, {Kind: api.DoTab, A: 2}, redo}, true},
		{[]api.Op{undo, redo, undo, redo}, true},
		{[]api.Op{edit(0, 0, "_"), undo, undo, redo}, true},
		{[]api.Op{undo, add(api.Inlay{ID: 2, At: 0, Text: "y"}), redo}, false},
		{[]api.Op{undo, fold(0, 1), redo}, false},
		{[]api.Op{undo, fold(0, 1), unfold(0, 0), redo}, false},
		{[]api.Op{undo, unfold(0, 0), redo}, false}, // though it removes none
		{[]api.Op{undo, {Kind: api.DoInlay}, redo}, false},
		{[]api.Op{edit(0, 0, "_"), undo, undo, fold(0, 1), redo}, false},
		{[]api.Op{edit(0, 0, "_"), undo, fold(4, 5), undo, redo}, true}, // turned ahead of the step's undoing
	} {
		m, k := both(t, "abcd", 4, 0)
		for _, o := range slices.Concat(was, c.between) {
			if e := play(t, m, k, o); e != api.OK {
				t.Fatalf("%d: %v: %v", i, o, e)
			}
			hold(t, m, k)
		}
		if again := slices.Contains(m.Folds(), api.Span{From: 2, To: 4}) && slices.Contains(m.Inlays(), x); again != c.again {
			t.Errorf("%d: %v, %v", i, m.Folds(), m.Inlays())
		}
	}
	// What tells an error has turned nothing.
	for _, o := range []api.Op{fold(1, 1), fold(9, 0), unfold(1, 0), unfold(-1, 0), remove(7), add(x, x), edit(0, 9, ""), edit(1, 0, ""), {Kind: api.DoTab}, {}} {
		m, k := both(t, "abcd", 4, 0)
		for _, o := range slices.Concat(was, []api.Op{undo, o, redo}) {
			play(t, m, k, o)
		}
		hold(t, m, k)
		if len(m.Folds()) != 1 || m.Inlays()[0] != x {
			t.Errorf("%v: %v, %v", o, m.Folds(), m.Inlays())
		}
	}
}

// 26.1: of several steps that were undone each one has its own sets again; those alone that were undone behind the last turn of one.
func TestRedoOfSeveral(t *testing.T) {
	m, k := both(t, "abcdef", 4, 0)
	script := []api.Op{
		edit(0, 2, "xx"), fold(0, 2), edit(2, 4, "yy"), fold(2, 4), edit(4, 6, "zz"), fold(4, 6),
		undo, undo, fold(5, 6), undo, // the folds of the steps behind are gone
		redo, redo, redo,
	}
	want := []int{0, 1, 1, 2, 2, 3, 2, 1, 2, 1, 2, 2, 1}
	for i, o := range script {
		play(t, m, k, o)
		hold(t, m, k)
		if n := len(m.Folds()); n != want[i] {
			t.Errorf("%d: %v, not %d", i, m.Folds(), want[i])
		}
	}
}

// scripts calls do with all scripts of n of some operations.
func scripts(l []api.Op, n int, do func([]api.Op)) {
	script := make([]api.Op, n)
	var grow func(i int)
	grow = func(i int) {
		if i == n {
			do(script)
			return
		}
		for _, o := range l {
			script[i] = o
			grow(i + 1)
		}
	}
	grow(0)
}

// 26.1, 26.2: all short scripts.
func TestAllShortScripts(t *testing.T) {
	wide := []api.Op{
		edit(1, 1, "x"), edit(0, 2, "\n"), edit(1, 3, ""), {Kind: api.DoEdit, Edits: []api.Edit{{From: 0, To: 1, Text: "yz"}, {From: 1, To: 1, Text: "w"}, {From: 2, To: 3}}},
		fold(1, 3), fold(2, 1), unfold(0, 1), add(api.Inlay{ID: 1, At: 2, Bias: api.Right, Text: "i"}), remove(1),
		undo, redo, {Kind: api.DoWidth, A: 2}, {Kind: api.DoTab, A: 3},
	}
	narrow := []api.Op{edit(1, 2, "xy"), fold(1, 3), unfold(1, 1), undo, redo}
	for _, c := range []struct {
		l []api.Op
		n int
	}{{wide, 1}, {wide, 2}, {wide, 3}, {wide, 4}, {narrow, 5}, {narrow, 6}} {
		scripts(c.l, c.n, func(script []api.Op) {
			m, k := newModel(t, "a\tb\nc", 4, 0), newLike("a\tb\nc", 4, 0)
			for _, o := range script {
				play(t, m, k, o)
			}
			hold(t, m, k)
		})
	}
}

// some is an operation of some seed; some of its bytes are none of the text, or within a rune.
func some(text string, seed int) api.Op {
	at := func(i int) int {
		n := mix(20*seed+i, len(text)+1)
		if mix(20*seed+i+1, 20) == 0 {
			return n - 2 + mix(20*seed+i+2, 5)
		}
		for n < len(text) && !utf8.RuneStart(text[n]) {
			n++
		}
		return n
	}
	o := api.Op{Kind: 1 + mix(seed, 8), A: at(0), B: at(3)}
	if o.A > o.B && mix(seed+1, 8) > 0 {
		o.A, o.B = o.B, o.A
	}
	switch o.Kind {
	case api.DoEdit:
		o.Edits = someEdits(at, seed)
	case api.DoInlay:
		for i := range mix(seed+2, 3) {
			o.Add = append(o.Add, api.Inlay{ID: mix(seed+3+i, 20), At: at(6 + 3*i), Bias: mix(seed+5+i, 2), Key: mix(seed+7+i, 3), Text: []string{"i", "\u4e00\xff", "\t ", "xy z", ""}[mix(seed+9+i, 5)]})
		}
		for i := range mix(seed+11, 2) {
			o.Remove = append(o.Remove, mix(seed+12+i, 20))
		}
	case api.DoWidth:
		o.A = mix(seed+2, 14) - 1
	case api.DoTab:
		o.A = mix(seed+2, api.MaxTab+3)
	case 8:
		o.Kind = []int{api.DoUndo, api.DoRedo, api.DoRedo, api.DoRedo, 0}[mix(seed+2, 5)]
	}
	return o
}

// someEdits are up to three edits, most of which rise.
func someEdits(at func(i int) int, seed int) []api.Edit {
	var ends []int
	for i := range 2 * mix(seed+2, 4) {
		ends = append(ends, at(6+i))
	}
	if mix(seed+3, 10) > 0 {
		slices.Sort(ends)
	}
	var l []api.Edit
	for i := 0; i < len(ends); i += 2 {
		l = append(l, api.Edit{From: ends[i], To: ends[i+1], Text: []string{"", "a", "b\n", "\t\u4e00", " cd ", "\xe4\xb8"}[mix(seed+4+i, 6)]})
	}
	return l
}

// 26.1 to 26.3, 26.5: scripts of all kinds of operations; behind each one a model has what it should have, and undo and redo change nothing.
func TestSomeScripts(t *testing.T) {
	seen := map[[2]int]int{}
	for seed := range 400 {
		text := strings.Repeat([]string{"", "ab cd\n", "\u4e00\xff\t", "  x yz\n\n"}[mix(seed, 4)], 1+mix(seed+1, 5))
		m, k := both(t, text, 1+mix(seed+2, 8), mix(seed+3, 12))
		for i := range 60 {
			o := some(m.Text(), 1000*seed+i)
			e := play(t, m, k, o)
			seen[[2]int{o.Kind, int(e)}]++
			hold(t, m, k)
			if mix(seed+i, 4) == 0 {
				holdBack(t, m, k)
			}
		}
	}
	for kind, l := range [][]api.Errno{
		api.DoEdit:   {api.OK, api.ErrArg, api.ErrMid, api.ErrOrder},
		api.DoFold:   {api.OK, api.ErrArg, api.ErrMid, api.ErrSame},
		api.DoUnfold: {api.OK, api.ErrArg, api.ErrMid},
		api.DoInlay:  {api.OK, api.ErrArg, api.ErrMid, api.ErrNone, api.ErrSame, api.ErrForm},
		api.DoWidth:  {api.OK, api.ErrArg},
		api.DoTab:    {api.OK, api.ErrArg},
		api.DoUndo:   {api.OK, api.ErrNone},
		api.DoRedo:   {api.OK, api.ErrNone},
	} {
		for _, e := range l {
			if seen[[2]int{kind, int(e)}] < 5 {
				t.Errorf("the kind %d has told %v only %d times", kind, e, seen[[2]int{kind, int(e)}])
			}
		}
	}
}

// holdBack tells what undo, and redo at once behind it, have changed.
func holdBack(t *testing.T, m *model.Model, k *like) {
	t.Helper()
	text, in, shut, rows := m.Text(), m.Inlays(), m.Folds(), m.Rows()
	if e := play(t, m, k, undo); e != api.OK {
		return
	}
	hold(t, m, k)
	play(t, m, k, redo)
	hold(t, m, k)
	if m.Text() != text || !slices.Equal(m.Inlays(), in) || !slices.Equal(m.Folds(), shut) || !slices.EqualFunc(m.Rows(), rows, sameRow) {
		t.Fatalf("undo and redo of %q, %v, %v make %q, %v, %v", text, in, shut, m.Text(), m.Inlays(), m.Folds())
	}
}

// 26.4: behind batches, with all else between, as many times undo is the text ahead of the first one; and redo the one behind the last one.
func TestUndoOfMany(t *testing.T) {
	for seed := range 60 {
		m, k := both(t, strings.Repeat("ab\u4e00 \n", 3), 4, 5)
		for i := range mix(seed, 20) {
			play(t, m, k, some(m.Text(), 3000*seed+i))
		}
		texts := []string{m.Text()}
		for i := 0; len(texts) < 2+mix(seed+1, api.MaxUndo); i++ {
			o := some(m.Text(), 500*seed+7*i)
			if o.Kind == api.DoUndo || o.Kind == api.DoRedo {
				continue
			}
			if e := play(t, m, k, o); e == api.OK && o.Kind == api.DoEdit {
				texts = append(texts, m.Text())
			}
		}
		behind := m.Text()
		for i, s := range slices.Backward(texts) {
			if m.Text() != s {
				t.Fatalf("seed %d, %d: %q, not %q", seed, i, m.Text(), s)
			}
			if i > 0 {
				play(t, m, k, undo)
				hold(t, m, k)
			}
		}
		for range texts[1:] {
			play(t, m, k, redo)
			hold(t, m, k)
		}
		if m.Text() != behind {
			t.Fatalf("seed %d: %q, not %q", seed, m.Text(), behind)
		}
	}
}

// A nil model has nothing.
func TestNilModel(t *testing.T) {
	var m *model.Model
	for kind := range 11 {
		told(t, m, api.Op{Kind: kind, A: 1, Edits: []api.Edit{{From: -1}}}, api.ErrState)
	}
	if m.Text() != "" || len(m.Inlays()) > 0 || len(m.Folds()) > 0 || m.Tab() != 0 || m.Width() != 0 || len(m.Rows()) > 0 {
		t.Errorf("%q, %v, %v, %d, %d, %v", m.Text(), m.Inlays(), m.Folds(), m.Tab(), m.Width(), m.Rows())
	}
}

// No call dies of a model that New has not made.
func TestZeroModel(t *testing.T) {
	for kind := range 11 {
		var m model.Model
		r := m.Do(api.Op{Kind: kind, Edits: []api.Edit{{Text: "x"}}, Add: []api.Inlay{{ID: 1, Text: "x"}}})
		if m.Text() != "" || r.Err == api.OK && kind != api.DoUnfold && kind != api.DoInlay {
			t.Errorf("the kind %d: %v, %q", kind, r, m.Text())
		}
		m.Rows()
	}
}

// R3: what is handed in stays as it is, spare room too, and is not kept; what is answered is not kept either.
func TestNothingIsShared(t *testing.T) {
	edits := append(make([]api.Edit, 0, 4), api.Edit{From: 3, To: 6, Text: "x"}, api.Edit{From: 6, To: 6, Text: "y"})
	adds := append(make([]api.Inlay, 0, 4), api.Inlay{ID: 2, At: 3, Text: "p"}, api.Inlay{ID: 1, At: 4, Text: "q"})
	gone := append(make([]int, 0, 4), 1)
	wasEdits, wasAdds, wasGone := slices.Clone(edits[:4]), slices.Clone(adds[:4]), slices.Clone(gone[:4])
	m, k := both(t, "\u4e00bcd\n e\t", 4, 3)
	for _, o := range []api.Op{{Kind: api.DoInlay, Add: adds}, {Kind: api.DoInlay, Remove: gone}, {Kind: api.DoEdit, Edits: edits}, fold(3, 5)} {
		if e := play(t, m, k, o); e != api.OK {
			t.Fatalf("%v: %v", o, e)
		}
		if !slices.Equal(edits[:4], wasEdits) || !slices.Equal(adds[:4], wasAdds) || !slices.Equal(gone[:4], wasGone) {
			t.Fatalf("what was handed in has changed: %v, %v, %v", edits[:4], adds[:4], gone[:4])
		}
	}
	clear(edits[:4])
	clear(adds[:4])
	clear(gone[:4])
	in, shut, rows := m.Inlays(), m.Folds(), m.Rows()
	clear(in[:cap(in)])
	clear(shut[:cap(shut)])
	for _, r := range rows {
		clear(r.Cells[:cap(r.Cells)])
	}
	clear(rows[:cap(rows)])
	hold(t, m, k)
	for _, o := range []api.Op{undo, redo, undo, fold(0, 3), redo} {
		play(t, m, k, o)
		hold(t, m, k)
	}
}

// R6: one model knows nothing of another one.
func TestModelsApart(t *testing.T) {
	a, k := both(t, "ab\ncd", 4, 0)
	b, l := both(t, "ab\ncd", 4, 0)
	for i := range 300 {
		if mix(i, 2) == 0 {
			play(t, a, k, some(a.Text(), 2*i))
		} else {
			play(t, b, l, some(b.Text(), 3*i))
		}
		hold(t, a, k)
		hold(t, b, l)
	}
}
