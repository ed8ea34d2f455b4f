package history_test

import (
	"slices"
	"strings"
	"testing"

	"bodkin/api"
	"bodkin/batch"
	"bodkin/history"
	"bodkin/rope"
)

// mix is a number from 0 to below n that is hard to foresee and ever the same.
func mix(seed, n int) int {
	x := uint64(seed)*0x9e3779b97f4a7c15 + 0x632be59bd9b4e019
	x ^= x >> 29
	x *= 0xbf58476d1ce4e5b9
	x ^= x >> 32
	return int(x % uint64(n))
}

// step is the one with a number; its batches are told from each other, and from those of all other steps.
func step(n int) history.Step {
	return history.Step{
		Back:  []api.Edit{{From: n, To: n + 1, Text: "back"}, {From: n + 5, To: n + 5}},
		Forth: []api.Edit{{From: n, To: n + 2, Text: "forth"}},
	}
}

// past is what a history is held against: all steps that it knows in one list, and how many of them can be undone.
type past struct {
	steps []history.Step
	done  int
}

func (p *past) push(s history.Step) {
	p.steps = append(slices.Clone(p.steps[:p.done]), s)
	p.steps = p.steps[max(0, len(p.steps)-api.MaxUndo):]
	p.done = len(p.steps)
}

func (p *past) undo() ([]api.Edit, api.Errno) {
	if p.done == 0 {
		return nil, api.ErrNone
	}
	p.done--
	return p.steps[p.done].Back, api.OK
}

func (p *past) redo() ([]api.Edit, api.Errno) {
	if p.done == len(p.steps) {
		return nil, api.ErrNone
	}
	p.done++
	return p.steps[p.done-1].Forth, api.OK
}

// sized tells what is wrong with a history that should have so many steps.
func sized(t *testing.T, h *history.History, done, undone int) {
	t.Helper()
	if a, b := h.Sizes(); a != done || b != undone {
		t.Fatalf("Sizes: %d, %d, not %d, %d", a, b, done, undone)
	}
}

// tells tells what is wrong with what a call answers.
func tells(t *testing.T, call func() ([]api.Edit, api.Errno), want []api.Edit, f api.Errno) {
	t.Helper()
	if l, e := call(); e != f || !slices.Equal(l, want) {
		t.Fatalf("%v, %v, not %v, %v", l, e, want, f)
	}
}

// pushed is a history onto which steps from a number on, up to another one, were pushed.
func pushed(t *testing.T, from, to int) *history.History {
	t.Helper()
	h := history.New()
	for n := from; n < to; n++ {
		if e := h.Push(step(n)); e != api.OK {
			t.Fatalf("Push: %v", e)
		}
	}
	return h
}

// The document's example.
func TestExample(t *testing.T) {
	a, b := step(1), step(2)
	h := pushed(t, 1, 3)
	tells(t, h.Undo, b.Back, api.OK)
	tells(t, h.Undo, a.Back, api.OK)
	tells(t, h.Redo, a.Forth, api.OK)
	sized(t, h, 1, 1)
}

// 12.1, 12.2: there is nothing ahead of the first step, and what is not there changes nothing.
func TestNew(t *testing.T) {
	h := history.New()
	sized(t, h, 0, 0)
	for range 3 {
		tells(t, h.Undo, nil, api.ErrNone)
		tells(t, h.Redo, nil, api.ErrNone)
		sized(t, h, 0, 0)
	}
	if e := h.Push(step(1)); e != api.OK {
		t.Fatal(e)
	}
	sized(t, h, 1, 0)
	tells(t, h.Redo, nil, api.ErrNone)
	sized(t, h, 1, 0)
	tells(t, h.Undo, step(1).Back, api.OK)
	tells(t, h.Undo, nil, api.ErrNone)
	sized(t, h, 0, 1)
	tells(t, h.Redo, step(1).Forth, api.OK)
	tells(t, h.Redo, nil, api.ErrNone)
	sized(t, h, 1, 0)
}

// 12.1: one history knows nothing of another one.
func TestNewIsAnotherOne(t *testing.T) {
	a, b := history.New(), history.New()
	if e := a.Push(step(1)); e != api.OK || a == b {
		t.Fatal(e)
	}
	sized(t, b, 0, 0)
	tells(t, b.Undo, nil, api.ErrNone)
	sized(t, a, 1, 0)
}

// 12.1: the eldest goes, and no other one.
func TestPushFull(t *testing.T) {
	for _, n := range []int{api.MaxUndo - 1, api.MaxUndo, api.MaxUndo + 1, 3*api.MaxUndo + 7} {
		h := pushed(t, 0, n)
		many := min(n, api.MaxUndo)
		sized(t, h, many, 0)
		for i := range many {
			tells(t, h.Undo, step(n-1-i).Back, api.OK)
		}
		tells(t, h.Undo, nil, api.ErrNone)
		sized(t, h, 0, many)
		for i := range many {
			tells(t, h.Redo, step(n-many+i).Forth, api.OK)
		}
		tells(t, h.Redo, nil, api.ErrNone)
		sized(t, h, many, 0)
	}
}

// 12.1: what was undone makes no step go: room is there for those that can be undone.
func TestPushBehindUndo(t *testing.T) {
	h := pushed(t, 0, api.MaxUndo)
	tells(t, h.Undo, step(api.MaxUndo-1).Back, api.OK)
	tells(t, h.Undo, step(api.MaxUndo-2).Back, api.OK)
	h.Push(step(1000))
	sized(t, h, api.MaxUndo-1, 0)
	tells(t, h.Redo, nil, api.ErrNone)
	h.Push(step(1001))
	sized(t, h, api.MaxUndo, 0)
	h.Push(step(1002))
	sized(t, h, api.MaxUndo, 0)
	for _, n := range []int{1002, 1001, 1000} {
		tells(t, h.Undo, step(n).Back, api.OK)
	}
	for n := api.MaxUndo - 3; n > 0; n-- {
		tells(t, h.Undo, step(n).Back, api.OK)
	}
	tells(t, h.Undo, nil, api.ErrNone)
}

// 12.1, 12.2: a step of nothing is a step.
func TestStepsOfNothing(t *testing.T) {
	h := history.New()
	h.Push(history.Step{})
	h.Push(history.Step{Back: []api.Edit{}, Forth: []api.Edit{}})
	h.Push(history.Step{Back: step(1).Back})
	h.Push(history.Step{Forth: step(2).Forth})
	sized(t, h, 4, 0)
	for _, want := range [][]api.Edit{nil, step(1).Back, nil, nil} {
		tells(t, h.Undo, want, api.OK)
	}
	sized(t, h, 0, 4)
	for _, want := range [][]api.Edit{nil, nil, nil, step(2).Forth} {
		tells(t, h.Redo, want, api.OK)
	}
	sized(t, h, 4, 0)
}

// 12.1, 12.2: long plays, with many steps undone and many done again.
func TestPlays(t *testing.T) {
	for seed := range 60 {
		h, p := history.New(), &past{}
		for i := range 800 {
			// Of some plays there are long runs of one call, so that lists grow full and empty.
			switch turn := mix(1000*seed+i, 8) + mix(seed+i/60, 5); {
			case turn < 5:
				h.Push(step(i))
				p.push(step(i))
			case turn < 8:
				want, f := p.undo()
				tells(t, h.Undo, want, f)
			default:
				want, f := p.redo()
				tells(t, h.Redo, want, f)
			}
			sized(t, h, p.done, len(p.steps)-p.done)
		}
	}
}

// everyAnswer is all that a history tells from where it stands; it stands there again then.
func everyAnswer(t *testing.T, h *history.History) [][]api.Edit {
	t.Helper()
	var all [][]api.Edit
	a, b := h.Sizes()
	for _, call := range []func() ([]api.Edit, api.Errno){h.Undo, h.Redo} {
		for range a + b + 1 {
			l, _ := call()
			all = append(all, l)
		}
	}
	for range b {
		h.Undo()
	}
	sized(t, h, a, b)
	return all
}

// 12.3: undo and, behind it, redo change nothing.
func TestThereAndBack(t *testing.T) {
	for _, n := range []int{1, 5, api.MaxUndo, api.MaxUndo + 5} {
		h := pushed(t, 0, n)
		for done := min(n, api.MaxUndo); done > 0; done-- {
			was := everyAnswer(t, h)
			back, e := h.Undo()
			forth, f := h.Redo()
			top := step(n - min(n, api.MaxUndo) + done - 1)
			if e != api.OK || f != api.OK || !slices.Equal(back, top.Back) || !slices.Equal(forth, top.Forth) {
				t.Fatalf("%d: %v, %v; %v, %v", done, back, e, forth, f)
			}
			if !slices.EqualFunc(everyAnswer(t, h), was, slices.Equal) {
				t.Fatalf("%d: undo and redo have changed what is told", done)
			}
			tells(t, h.Undo, top.Back, api.OK)
		}
	}
}

// edits is a batch that is right for a text of n runes.
func edits(n, seed int) []api.Edit {
	texts := []string{"", "x", "\u4e00\n", "\xff", "abc", "\xe4\xb8"}
	var l []api.Edit
	for at, i := 0, 0; at <= n && i < 4; i++ {
		from := at + mix(seed+3*i, n-at+1)
		to := min(n, from+mix(seed+3*i+1, 4))
		l = append(l, api.Edit{From: from, To: to, Text: texts[mix(seed+3*i+2, len(texts))]})
		at = to
	}
	return l
}

// 12.3: on one text each batch comes when it must be applied, however far one goes back and forth between.
func TestOnOneText(t *testing.T) {
	for seed := range 30 {
		h := history.New()
		r, _ := rope.New("ab\ncd\u4e00")
		texts, now := []string{r.Text()}, 0 // the text ahead of each step, and which of them stands
		apply := func(l []api.Edit) {
			t.Helper()
			var e api.Errno
			if r, e = batch.Apply(r, l); e != api.OK {
				t.Fatalf("Apply(%v): %v", l, e)
			}
		}
		for i := range 300 {
			switch turn := mix(400*seed+i, 10); {
			case turn < 5:
				l := edits(r.Runes(), 5000*seed+11*i)
				back, _ := batch.Invert(r, l)
				apply(l)
				h.Push(history.Step{Back: back, Forth: l})
				texts, now = append(texts[:now+1], r.Text()), now+1
			case turn < 8:
				l, e := h.Undo()
				if e == api.OK {
					now--
				}
				apply(l)
			default:
				l, e := h.Redo()
				if e == api.OK {
					now++
				}
				apply(l)
			}
			if r.Text() != texts[now] {
				t.Fatalf("%d, %d: %q, not %q", seed, i, r.Text(), texts[now])
			}
		}
	}
}

// P7: behind k batches k times undo is the text ahead of the first one, and k times redo the text behind the last one.
func TestAllUndone(t *testing.T) {
	h := history.New()
	first, _ := rope.New(strings.Repeat("ab\u4e00\n", 20))
	r := first
	for i := range api.MaxUndo {
		l := edits(r.Runes(), 100*i)
		back, _ := batch.Invert(r, l)
		r, _ = batch.Apply(r, l)
		h.Push(history.Step{Back: back, Forth: l})
	}
	last := r.Text()
	for _, c := range []struct {
		call func() ([]api.Edit, api.Errno)
		want string
	}{{h.Undo, first.Text()}, {h.Redo, last}, {h.Undo, first.Text()}} {
		for range api.MaxUndo {
			l, e := c.call()
			if e != api.OK {
				t.Fatal(e)
			}
			if r, e = batch.Apply(r, l); e != api.OK {
				t.Fatal(e)
			}
		}
		if r.Text() != c.want {
			t.Errorf("%q, not %q", r.Text(), c.want)
		}
	}
}

// A nil history has none, and takes none.
func TestNil(t *testing.T) {
	var h *history.History
	for range 2 {
		if e := h.Push(step(1)); e != api.ErrState {
			t.Errorf("Push: %v", e)
		}
		if e := h.Push(history.Step{}); e != api.ErrState {
			t.Errorf("Push of nothing: %v", e)
		}
		tells(t, h.Undo, nil, api.ErrNone)
		tells(t, h.Redo, nil, api.ErrNone)
		sized(t, h, 0, 0)
	}
}

// R3: what is handed in stays, spare room too, and is not kept; an answer is new memory each time.
func TestWhatIsHandedInStays(t *testing.T) {
	room := append(step(1).Back, api.Edit{From: 90, Text: "spare"})
	other := append(step(1).Forth, api.Edit{From: 91, Text: "spare"})
	was, wasOther := slices.Clone(room), slices.Clone(other)
	h := history.New()
	h.Push(history.Step{Back: room[:2], Forth: other[:1]})
	h.Push(history.Step{Back: room[:2], Forth: room[:2]})
	tells(t, h.Undo, step(1).Back, api.OK)
	if !slices.Equal(room, was) || !slices.Equal(other, wasOther) {
		t.Fatalf("an argument has changed: %v, %v", room, other)
	}
	clear(room)
	clear(other)
	tells(t, h.Redo, step(1).Back, api.OK)
	tells(t, h.Undo, step(1).Back, api.OK)
	for range 3 {
		back, e := h.Undo()
		if e != api.OK || !slices.Equal(back, step(1).Back) {
			t.Fatalf("Undo: %v, %v", back, e)
		}
		clear(back[:cap(back)])
		forth, e := h.Redo()
		if e != api.OK || !slices.Equal(forth, step(1).Forth) {
			t.Fatalf("Redo: %v, %v", forth, e)
		}
		clear(forth[:cap(forth)])
	}
}
