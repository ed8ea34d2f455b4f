package tree

import (
	"slices"
	"testing"

	"bodkin/api"
	"bodkin/item"
)

// bare are n items that are told apart by their IDs.
func bare(n int) []item.Item {
	var l []item.Item
	for i := range n {
		l = append(l, item.Item{ID: i, D: [3]int{1, i, 0}, Max: i % 5})
	}
	return l
}

// leavesOf are leaves of so many items each.
func leavesOf(counts ...int) []node {
	var l []node
	for _, n := range counts {
		l = append(l, newLeaf(bare(n)))
	}
	return l
}

// above is a tree whose topmost node has others below it.
func above(l ...node) *Tree { return &Tree{top: newBranch(l)} }

// turned is a tree, turned by hand.
func turned(t *Tree, turn func(b *branch)) *Tree {
	turn(t.top.(*branch))
	return t
}

// 5.4: what Sound says is not just true.
func TestSoundTellsWhatIsWrong(t *testing.T) {
	fours := func() *Tree { return above(leavesOf(4, 4, 4)...) }
	for what, c := range map[string]struct {
		x    *Tree
		want bool
	}{
		"no item":                   {&Tree{}, true},
		"one item":                  {&Tree{top: newLeaf(bare(1))}, true},
		"a leaf of eight":           {&Tree{top: newLeaf(bare(8))}, true},
		"leaves of four":            {fours(), true},
		"eight leaves":              {above(leavesOf(8, 8, 8, 8, 8, 8, 8, 8)...), true},
		"a leaf of no item":         {&Tree{top: newLeaf(nil)}, false},
		"a leaf of nine":            {&Tree{top: newLeaf(bare(9))}, false},
		"a leaf of nine below":      {above(leavesOf(4, 9)...), false},
		"a first leaf of three":     {above(leavesOf(3, 8)...), false},
		"a last leaf of three":      {above(leavesOf(8, 8, 3)...), false},
		"a topmost one of one":      {above(leavesOf(8)...), false},
		"nine leaves":               {above(leavesOf(4, 4, 4, 4, 4, 4, 4, 4, 4)...), false},
		"branches of four":          {above(newBranch(leavesOf(4, 4, 4, 4)), newBranch(leavesOf(4, 4, 4, 4))), true},
		"a branch of three":         {above(newBranch(leavesOf(4, 4, 4, 4)), newBranch(leavesOf(8, 8, 8))), false},
		"a leaf beside a branch":    {above(newBranch(leavesOf(4, 4, 4, 4)), newLeaf(bare(4))), false},
		"a branch beside a leaf":    {above(newLeaf(bare(4)), newBranch(leavesOf(4, 4, 4, 4))), false},
		"a wrong height":            {turned(fours(), func(b *branch) { b.high = 3 }), false},
		"a wrong sum of a branch":   {turned(fours(), func(b *branch) { b.all.D[1]++ }), false},
		"a wrong Max of a branch":   {turned(fours(), func(b *branch) { b.all.At++ }), false},
		"a wrong number":            {turned(fours(), func(b *branch) { b.all.N-- }), false},
		"a wrong sum of a leaf":     {turned(fours(), func(b *branch) { b.kids[1].(*leaf).all.D[2] = 1 }), false},
		"an item more than is told": {turned(fours(), func(b *branch) { b.kids[0].(*leaf).items = bare(5) }), false},
	} {
		if c.x.Sound() != c.want {
			t.Errorf("%s: %v", what, !c.want)
		}
	}
}

// 5.4: as many as a tree may have, and one more.
func TestSoundMost(t *testing.T) {
	for n, want := range map[int]bool{Most: true, Most + 1: false} {
		if x := (&Tree{top: build(make([]item.Item, n))}); x.Sound() != want {
			t.Errorf("%d items: %v", n, !want)
		}
	}
}

// nodesOf calls do with a node and all below it.
func nodesOf(n node, do func(node)) {
	if n == nil {
		return
	}
	do(n)
	if b, ok := n.(*branch); ok {
		for _, k := range b.kids {
			nodesOf(k, do)
		}
	}
}

// fresh is how many nodes of a tree are none of some others'.
func fresh(x *Tree, others ...*Tree) int {
	old := map[node]bool{}
	for _, o := range others {
		nodesOf(o.top, func(n node) { old[n] = true })
	}
	count := 0
	nodesOf(x.top, func(n node) {
		if !old[n] {
			count++
		}
	})
	return count
}

// A tree shares what it can: what is new of one is along its seams.
func TestTreesShareNodes(t *testing.T) {
	x, e := New(bare(5000))
	if e != api.OK {
		t.Fatal(e)
	}
	few := 8 * x.Height()
	for at := 0; at <= 5000; at += 7 {
		y, e := x.Replace(at, min(at+1, 5000), bare(2))
		if n := fresh(y, x); e != api.OK || n > few {
			t.Errorf("Replace at %d: %v, %d new nodes", at, e, n)
		}
		s, e := x.Slice(at/3, 5000-at/2)
		if n := fresh(s, x); e != api.OK || n > few {
			t.Errorf("Slice from %d: %v, %d new nodes", at/3, e, n)
		}
		j, e := Join(s, y)
		if n := fresh(j, s, y); e != api.OK || n > few {
			t.Errorf("Join: %v, %d new nodes", e, n)
		}
	}
}

// What is taken whole is not made again.
func TestTreesShareAllThatIsWhole(t *testing.T) {
	for _, n := range []int{1, 8, 9, 20, 64, 65, 700} {
		x, _ := New(bare(n))
		for what, y := range map[string]func() (*Tree, api.Errno){
			"Slice of all":         func() (*Tree, api.Errno) { return x.Slice(0, n) },
			"Join ahead of no one": func() (*Tree, api.Errno) { return Join(x, nil) },
			"Join behind no one":   func() (*Tree, api.Errno) { return Join(nil, x) },
			"Replace of nothing":   func() (*Tree, api.Errno) { return x.Replace(0, 0, nil) },
			"Replace at the end":   func() (*Tree, api.Errno) { return x.Replace(n, n, nil) },
		} {
			if z, e := y(); e != api.OK || z == x || fresh(z, x) != 0 {
				t.Errorf("%s, of %d: %v, %d new nodes", what, n, e, fresh(z, x))
			}
		}
	}
	for _, n := range []int{5, 8, 8 * 5, 8 * 8, 64 * 5} {
		x, _ := New(bare(n))
		y, _ := New(bare(n))
		if z, e := Join(x, y); e != api.OK || fresh(z, x, y) != 1 {
			t.Errorf("Join of %d and %d: %v, %d new nodes", n, n, e, fresh(z, x, y))
		}
	}
}

// 5.5: nodes that are shared stay as they are, spare room too.
func TestNodesStay(t *testing.T) {
	x, _ := New(bare(300))
	was := map[node][]item.Item{}
	nodesOf(x.top, func(n node) { was[n] = gather(nil, n) })
	for at := range 300 {
		y, _ := x.Replace(at, at+1, bare(at%12))
		z, _ := Join(y, x)
		z.Slice(at, at+200)
	}
	nodesOf(x.top, func(n node) {
		if !slices.Equal(gather(nil, n), was[n]) || n.sum() != item.All(was[n]) {
			t.Errorf("a node has become %v", gather(nil, n))
		}
	})
}
