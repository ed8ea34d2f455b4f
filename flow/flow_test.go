package flow_test

import (
	"math"
	"slices"
	"testing"

	"bodkin/api"
	"bodkin/flow"
	"bodkin/tree"
)

// mix is a number from 0 to below n that is hard to foresee and ever the same.
func mix(seed, n int) int {
	x := uint64(seed)*0x9e3779b97f4a7c15 + 0x632be59bd9b4e019
	x ^= x >> 29
	x *= 0xbf58476d1ce4e5b9
	x ^= x >> 32
	return int(x % uint64(n))
}

// some are n lines of some seed.
func some(n, seed int) []flow.Line {
	var l []flow.Line
	for i := range n {
		k := 7*seed + 4*i
		l = append(l, flow.Line{Shown: mix(k, 4), Buffer: mix(k+1, 4), Rows: 1 + mix(k+2, 3), Wide: mix(k+3, 50)})
	}
	return l
}

// of is the flow of lines that are right.
func of(t *testing.T, l []flow.Line) *flow.Flow {
	t.Helper()
	f, e := flow.New(l)
	if f == nil || e != api.OK {
		t.Fatalf("New of %d lines: %v", len(l), e)
	}
	return f
}

// sumOf is what lines have together.
func sumOf(l []flow.Line) flow.Line {
	var s flow.Line
	for _, x := range l {
		s = flow.Line{Shown: s.Shown + x.Shown, Buffer: s.Buffer + x.Buffer, Rows: s.Rows + x.Rows, Wide: max(s.Wide, x.Wide)}
	}
	return s
}

// answer is what a lookup answers.
type answer struct {
	s flow.Spot
	e api.Errno
}

// got is an answer.
func got(s flow.Spot, e api.Errno) answer { return answer{s, e} }

// What is looked up: how many of it a line has.
var (
	shown  = func(x flow.Line) int { return x.Shown }
	buffer = func(x flow.Line) int { return x.Buffer }
	rows   = func(x flow.Line) int { return x.Rows }
	number = func(flow.Line) int { return 1 }
)

// find is the spot of the first line with whose end more than at of what has tells of are there; ErrArg, if there is none.
func find(l []flow.Line, at int, has func(flow.Line) int) answer {
	ahead, all := 0, flow.Spot{}
	for i, x := range l {
		if at >= 0 && ahead+has(x) > at {
			all.Line, all.Inside = i, at-ahead
			return answer{s: all}
		}
		ahead += has(x)
		all.Row, all.Shown, all.Buffer = all.Row+x.Rows, all.Shown+x.Shown, all.Buffer+x.Buffer
	}
	return answer{e: api.ErrArg}
}

// upTo is find, but behind all the spot is the last line's; ErrNone, if there is no line.
func upTo(l []flow.Line, at int, has func(flow.Line) int) answer {
	if len(l) == 0 {
		return answer{e: api.ErrNone}
	}
	all := 0
	for _, x := range l {
		all += has(x)
	}
	if at != all {
		return find(l, at, has)
	}
	last := find(l, len(l)-1, number)
	last.s.Inside = has(l[len(l)-1])
	return last
}

// places are those to ask for, of n: all with some that are none, or, of many, some of them.
func places(n int) []int {
	l := []int{math.MinInt, math.MinInt + 1, -2, -1, n + 1, n + 2, math.MaxInt - 1, math.MaxInt}
	step := 1 + n/500
	for at := 0; at < n; at += step {
		l = append(l, at, min(at+step, n)-1)
	}
	return append(l, n)
}

// hold tells what is wrong with the flow of lines.
func hold(t *testing.T, f *flow.Flow, l []flow.Line) {
	t.Helper()
	if !slices.Equal(f.Lines(), l) || f.Count() != len(l) {
		t.Fatalf("Lines: %v, %d, not %v", f.Lines(), f.Count(), l)
	}
	s := sumOf(l)
	if f.Sum() != s {
		t.Fatalf("Sum of %v: %v, not %v", l, f.Sum(), s)
	}
	i, wide := f.Widest()
	if wide != s.Wide || i != max(slices.IndexFunc(l, func(x flow.Line) bool { return x.Wide == s.Wide }), 0) {
		t.Fatalf("Widest of %v: %d, %d", l, i, wide)
	}
	holdTree(t, f, l)
	for _, c := range []struct {
		name string
		n    int
		by   func(int) (flow.Spot, api.Errno)
		want func(int) answer
	}{
		{"ByRow", s.Rows, f.ByRow, func(at int) answer { return find(l, at, rows) }},
		{"ByLine", len(l), f.ByLine, func(at int) answer { return find(l, at, number) }},
		{"ByShown", s.Shown, f.ByShown, func(at int) answer { return upTo(l, at, shown) }},
		{"ByBuffer", s.Buffer, f.ByBuffer, func(at int) answer { return upTo(l, at, buffer) }},
	} {
		for _, at := range places(c.n) {
			if g, want := got(c.by(at)), c.want(at); g != want {
				t.Fatalf("%s(%d) of %v: %v, not %v", c.name, at, l, g, want)
			}
		}
	}
}

// holdTree tells what is wrong with the height of the tree of lines, and with what is visited of it.
func holdTree(t *testing.T, f *flow.Flow, l []flow.Line) {
	t.Helper()
	h := f.Height()
	if (h == 0) != (len(l) == 0) || h == 1 && len(l) > tree.Wide || h > 2 && math.Pow(4, float64(h-2)) > float64(len(l)+1) {
		t.Fatalf("Height %d of %d lines", h, len(l))
	}
	n := sumOf(l).Buffer
	for _, at := range places(n) {
		v := f.Visits(at)
		if at < 0 || at > n || len(l) == 0 {
			if v != 0 {
				t.Fatalf("Visits(%d) of %d: %d", at, n, v)
			}
		} else if v < 1 || v > h {
			t.Fatalf("Visits(%d): %d of a height of %d", at, v, h)
		}
	}
}

// The document's example.
func TestExample(t *testing.T) {
	f := of(t, []flow.Line{{Rows: 3}, {Rows: 1}, {Rows: 2}})
	if g := got(f.ByRow(4)); g != (answer{s: flow.Spot{Line: 2, Inside: 0, Row: 4}}) {
		t.Errorf("ByRow(4): %v", g)
	}
}

// kinds are lines of few of everything, and of none of what there may be none of.
func kinds() []flow.Line {
	var l []flow.Line
	for i := range 24 {
		l = append(l, flow.Line{Shown: i % 2, Buffer: 2 * (i / 2 % 2), Rows: 1 + i/4%2, Wide: i / 8})
	}
	return l
}

// 22.1 to 22.3: every few lines of few of everything.
func TestSmall(t *testing.T) {
	var grow func(l []flow.Line)
	grow = func(l []flow.Line) {
		hold(t, of(t, l), l)
		if len(l) == 3 {
			return
		}
		for _, x := range kinds() {
			grow(append(slices.Clone(l), x))
		}
	}
	grow(nil)
}

// 22.1 to 22.3: of many lines.
func TestMany(t *testing.T) {
	for seed := range 60 {
		l := some(mix(seed, 300), 1000*seed)
		hold(t, of(t, l), l)
	}
	l := some(tree.Most, 5)
	hold(t, of(t, l), l)
}

// 22.2: lines that have nothing of what is asked for are at none of its places; but behind all the last line is, whatever it has.
func TestNothingInLines(t *testing.T) {
	l := []flow.Line{{Rows: 1}, {Shown: 2, Buffer: 1, Rows: 1}, {Rows: 1}, {Rows: 2}, {Shown: 1, Buffer: 4, Rows: 1}, {Rows: 1}}
	f := of(t, l)
	for _, c := range []struct {
		got, want answer
	}{
		{got(f.ByShown(0)), answer{s: flow.Spot{Line: 1, Row: 1}}},
		{got(f.ByShown(1)), answer{s: flow.Spot{Line: 1, Inside: 1, Row: 1}}},
		{got(f.ByShown(2)), answer{s: flow.Spot{Line: 4, Row: 5, Shown: 2, Buffer: 1}}},
		{got(f.ByShown(3)), answer{s: flow.Spot{Line: 5, Row: 6, Shown: 3, Buffer: 5}}},
		{got(f.ByBuffer(0)), answer{s: flow.Spot{Line: 1, Row: 1}}},
		{got(f.ByBuffer(4)), answer{s: flow.Spot{Line: 4, Inside: 3, Row: 5, Shown: 2, Buffer: 1}}},
		{got(f.ByBuffer(5)), answer{s: flow.Spot{Line: 5, Row: 6, Shown: 3, Buffer: 5}}},
		{got(f.ByRow(4)), answer{s: flow.Spot{Line: 3, Inside: 1, Row: 3, Shown: 2, Buffer: 1}}},
	} {
		if c.got != c.want {
			t.Errorf("%v, not %v", c.got, c.want)
		}
	}
	f = of(t, []flow.Line{{Rows: 1}, {Rows: 1}})
	want := answer{s: flow.Spot{Line: 1, Row: 1}}
	if g, h := got(f.ByShown(0)), got(f.ByBuffer(0)); g != want || h != want {
		t.Errorf("of lines of nothing: %v, %v", g, h)
	}
	f = of(t, []flow.Line{{Rows: 1}, {Shown: 3, Buffer: 5, Rows: 1}})
	if g, h := got(f.ByShown(3)), got(f.ByBuffer(5)); g.s.Inside != 3 || h.s.Inside != 5 || g.s.Line != 1 || h.s.Line != 1 {
		t.Errorf("behind all: %v, %v", g, h)
	}
}

// 22.3: of several lines that have the widest row it is the first one.
func TestWidest(t *testing.T) {
	l := []flow.Line{{Rows: 1, Wide: 3}, {Rows: 1, Wide: 7}, {Rows: 1}, {Rows: 9, Wide: 7}}
	if i, n := of(t, l).Widest(); i != 1 || n != 7 {
		t.Errorf("Widest: %d, %d", i, n)
	}
	if i, n := of(t, []flow.Line{{Rows: 2}, {Rows: 5}}).Widest(); i != 0 || n != 0 {
		t.Errorf("Widest of no width: %d, %d", i, n)
	}
	for k := range 40 {
		l := slices.Repeat([]flow.Line{{Rows: 1, Wide: 5}}, 40)
		l[k].Wide = 6
		if i, n := of(t, l).Widest(); i != k || n != 6 {
			t.Errorf("Widest: %d, %d, not %d", i, n, k)
		}
	}
}

// 22.1: lines that have as much as may be.
func TestMost(t *testing.T) {
	const most = api.MaxInt
	l := slices.Repeat([]flow.Line{{Shown: most, Buffer: most, Rows: most, Wide: most}}, 100)
	f := of(t, l)
	hold(t, f, l)
	for i, g := range []answer{got(f.ByRow(42*most + 7)), got(f.ByShown(42*most + 7)), got(f.ByBuffer(42*most + 7))} {
		if g != (answer{s: flow.Spot{Line: 42, Inside: 7, Row: 42 * most, Shown: 42 * most, Buffer: 42 * most}}) {
			t.Errorf("%d: %v", i, g)
		}
	}
	if g := got(f.ByShown(100 * most)); g.s.Line != 99 || g.s.Inside != most {
		t.Errorf("behind all: %v", g)
	}
}

// wrong are lines that are none.
func wrong() []flow.Line {
	const above = api.MaxInt + 1
	return []flow.Line{
		{}, {Shown: 1, Buffer: 1, Wide: 1}, {Rows: -1}, {Rows: above}, {Rows: math.MinInt}, {Rows: math.MaxInt},
		{Rows: 1, Shown: -1}, {Rows: 1, Shown: above}, {Rows: 1, Shown: math.MinInt}, {Rows: 1, Shown: math.MaxInt},
		{Rows: 1, Buffer: -1}, {Rows: 1, Buffer: above}, {Rows: 1, Buffer: math.MinInt},
		{Rows: 1, Wide: -1}, {Rows: 1, Wide: above}, {Rows: 1, Wide: math.MinInt},
	}
}

// 22.1, 22.3: a line that is none is told of wherever it stands; too many lines are told of ahead of it.
func TestWrongLines(t *testing.T) {
	f := of(t, some(20, 1))
	for _, x := range wrong() {
		for at := range 12 {
			l := slices.Insert(some(11, at), at, x)
			if g, e := flow.New(l); g != nil || e != api.ErrArg {
				t.Errorf("New with %v at %d: %v", x, at, e)
			}
			if g, e := f.Replace(at, at+3, l); g != nil || e != api.ErrArg {
				t.Errorf("Replace with %v at %d: %v", x, at, e)
			}
		}
		l := slices.Repeat([]flow.Line{x}, tree.Most+1)
		if g, e := flow.New(l[1:]); g != nil || e != api.ErrArg {
			t.Errorf("New of the most of %v: %v", x, e)
		}
		if g, e := flow.New(l); g != nil || e != api.ErrFull {
			t.Errorf("New of too many of %v: %v", x, e)
		}
		if g, e := f.Replace(0, 20, l); g != nil || e != api.ErrFull {
			t.Errorf("Replace by too many of %v: %v", x, e)
		}
	}
	hold(t, f, some(20, 1))
}

// 22.3: there may be no more than tree.Most, of all that there are then.
func TestFull(t *testing.T) {
	l := slices.Repeat([]flow.Line{{Shown: 1, Buffer: 1, Rows: 1}}, tree.Most+1)
	if f, e := flow.New(l); f != nil || e != api.ErrFull {
		t.Errorf("New: %v", e)
	}
	f := of(t, l[1:])
	for i, c := range []struct {
		from, to, n int
		e           api.Errno
	}{
		{0, 0, 0, api.OK}, {0, 0, 1, api.ErrFull}, {7, 8, 1, api.OK}, {7, 8, 2, api.ErrFull}, {tree.Most, tree.Most, 1, api.ErrFull}, {0, tree.Most, tree.Most, api.OK}, {1, tree.Most, tree.Most, api.ErrFull},
	} {
		g, e := f.Replace(c.from, c.to, l[:c.n])
		if e != c.e || (g == nil) != (e != api.OK) {
			t.Errorf("%d: Replace: %v", i, e)
		}
	}
	if g, e := f.Replace(3, 3, []flow.Line{{}}); g != nil || e != api.ErrArg {
		t.Errorf("Replace by a line that is none, with no room: %v", e)
	}
	if f.Count() != tree.Most {
		t.Errorf("Count: %d", f.Count())
	}
}

// 22.3: lines that are none to be replaced are told of ahead of those that come.
func TestWrongSpans(t *testing.T) {
	l := some(9, 3)
	f := of(t, l)
	many := slices.Repeat([]flow.Line{{Rows: 1}}, tree.Most+1)
	for _, c := range [][2]int{{-1, 0}, {-1, 9}, {-1, -1}, {-2, -1}, {3, 2}, {9, 0}, {0, 10}, {9, 10}, {10, 10}, {10, 9}, {math.MinInt, 3}, {0, math.MinInt}, {0, math.MaxInt}, {math.MaxInt, math.MaxInt}, {math.MinInt, math.MaxInt}, {math.MaxInt, math.MinInt}} {
		for i, x := range [][]flow.Line{nil, some(2, 1), {{}}, many} {
			if g, e := f.Replace(c[0], c[1], x); g != nil || e != api.ErrArg {
				t.Errorf("Replace(%d, %d) by %d: %v", c[0], c[1], i, e)
			}
		}
	}
	hold(t, f, l)
}

// 22.3, 22.5: each span of a few lines is replaced by a few.
func TestReplaceEvery(t *testing.T) {
	for n := range 12 {
		l := some(n, n)
		f := of(t, l)
		for from := range n + 1 {
			for to := from; to <= n; to++ {
				for k := range 4 {
					x := some(k, 50+k+from)
					g, e := f.Replace(from, to, x)
					if g == nil || e != api.OK {
						t.Fatalf("Replace(%d, %d) by %v: %v", from, to, x, e)
					}
					hold(t, g, slices.Concat(l[:from], x, l[to:]))
				}
			}
		}
		hold(t, f, l)
	}
}

// 22.3, 22.5: flows that are made one of another again and again; those that they were made of stay.
func TestReplaceAgain(t *testing.T) {
	flows, lists := []*flow.Flow{of(t, nil)}, [][]flow.Line{nil}
	for k := range 300 {
		pick := len(flows) - 1 - mix(k, min(3, len(flows)))
		l := lists[pick]
		from := mix(k+1, len(l)+1)
		to := from + mix(k+2, min(len(l)-from, 9)+1)
		x := some(mix(k+3, 14), 1000*k)
		g, e := flows[pick].Replace(from, to, x)
		if g == nil || e != api.OK {
			t.Fatalf("step %d: %v", k, e)
		}
		flows, lists = append(flows, g), append(lists, slices.Concat(l[:from], x, l[to:]))
		hold(t, g, lists[k+1])
	}
	for k := range flows {
		if !slices.Equal(flows[k].Lines(), lists[k]) || flows[k].Sum() != sumOf(lists[k]) {
			t.Fatalf("the flow of step %d was changed", k)
		}
	}
}

// 22.4: the spots of neighbouring rows are in one line, or in two that are neighbours.
func TestNeighbours(t *testing.T) {
	f := of(t, some(200, 9))
	was, e := f.ByRow(0)
	if was != (flow.Spot{}) || e != api.OK {
		t.Fatalf("ByRow(0): %v, %v", was, e)
	}
	for row := 1; row < f.Sum().Rows; row++ {
		is, e := f.ByRow(row)
		within := is.Line == was.Line && is.Inside == was.Inside+1 && is.Row == was.Row
		next := is.Line == was.Line+1 && is.Inside == 0 && is.Row == row
		if e != api.OK || within == next {
			t.Fatalf("ByRow(%d): %v, %v, behind %v", row, is, e, was)
		}
		if next && is != got(f.ByLine(is.Line)).s {
			t.Fatalf("ByRow(%d): %v, not as ByLine", row, is)
		}
		was = is
	}
}

// A nil flow, one that nobody made, and that of no lines have no lines.
func TestNil(t *testing.T) {
	var none *flow.Flow
	l := some(3, 2)
	for i, f := range []*flow.Flow{none, {}, of(t, nil), of(t, []flow.Line{})} {
		hold(t, f, nil)
		if f.Visits(0) != 0 || f.Height() != 0 {
			t.Errorf("%d: Visits %d, Height %d", i, f.Visits(0), f.Height())
		}
		for _, at := range []int{-1, 0, 1, math.MinInt, math.MaxInt} {
			if g, h := got(f.ByShown(at)), got(f.ByBuffer(at)); g != (answer{e: api.ErrNone}) || h != g {
				t.Errorf("%d: at %d: %v, %v", i, at, g, h)
			}
			if g, h := got(f.ByRow(at)), got(f.ByLine(at)); g != (answer{e: api.ErrArg}) || h != g {
				t.Errorf("%d: of %d: %v, %v", i, at, g, h)
			}
		}
		g, e := f.Replace(0, 0, l)
		if e != api.OK {
			t.Fatalf("%d: Replace: %v", i, e)
		}
		hold(t, g, l)
		if g, e := f.Replace(0, 1, l); g != nil || e != api.ErrArg {
			t.Errorf("%d: Replace of what is not there: %v", i, e)
		}
		g, e = g.Replace(0, 3, nil)
		if e != api.OK {
			t.Fatalf("%d: Replace: %v", i, e)
		}
		hold(t, g, nil)
	}
}

// R3: what is handed in and what is handed out share nothing with the flow, nor with another answer.
func TestNotShared(t *testing.T) {
	want := some(30, 4)
	in := append(make([]flow.Line, 0, 40), want...)
	room := slices.Clone(in[:cap(in)])
	f := of(t, in)
	g, _ := f.Replace(2, 5, in)
	if !slices.Equal(room, in[:cap(in)]) {
		t.Error("what was handed in was changed")
	}
	clear(in[:cap(in)])
	one, two := f.Lines(), f.Lines()
	clear(one[:cap(one)])
	if !slices.Equal(two, want) {
		t.Error("two answers share")
	}
	hold(t, f, want)
	hold(t, g, slices.Concat(want[:2], want, want[5:]))
}
