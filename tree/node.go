package tree

import (
	"slices"

	"bodkin/item"
)

// node is a leaf or a branch. Trees share nodes: none is changed once it is made.
type node interface{ sum() item.Sum }

// leaf is a node of items.
type leaf struct {
	items []item.Item
	all   item.Sum
}

// branch is a node of nodes, all of one height.
type branch struct {
	kids []node
	all  item.Sum
	high int
}

func (l *leaf) sum() item.Sum { return l.all }

func (b *branch) sum() item.Sum { return b.all }

// newLeaf has a copy of items: a piece of a longer list would keep the whole of it.
func newLeaf(l []item.Item) *leaf {
	return &leaf{items: slices.Clone(l), all: item.All(l)}
}

// newBranch has a copy of nodes, of which there must be one at least.
func newBranch(l []node) *branch {
	return &branch{kids: slices.Clone(l), all: sumOf(l...), high: heightOf(l[0]) + 1}
}

// sumOf is the sum of nodes, one behind the other; nil ones have nothing.
func sumOf(l ...node) item.Sum {
	var s item.Sum
	for _, n := range l {
		if n != nil {
			s = item.Add(s, n.sum())
		}
	}
	return s
}

// heightOf is a node's height; 0 of nil.
func heightOf(n node) int {
	switch x := n.(type) {
	case *leaf:
		return 1
	case *branch:
		return x.high
	}
	return 0
}

// countOf is how many items or nodes a node has.
func countOf(n node) int {
	if x, ok := n.(*leaf); ok {
		return len(x.items)
	}
	return len(n.(*branch).kids)
}

// build is the topmost node above items; nil, if there is none.
func build(l []item.Item) node {
	row := leaves(l)
	for len(row) > 1 {
		row = branches(row)
	}
	return crown(row)
}

// leaves are the fewest leaves that have items.
func leaves(l []item.Item) []node {
	var row []node
	for _, part := range spread(l) {
		row = append(row, newLeaf(part))
	}
	return row
}

// branches are the fewest branches that have nodes.
func branches(l []node) []node {
	var row []node
	for _, part := range spread(l) {
		row = append(row, newBranch(part))
	}
	return row
}

// spread are a row's parts: the fewest that are not above Wide, as even as can be, so that of several none is below Narrow.
func spread[T any](l []T) [][]T {
	n := (len(l) + Wide - 1) / Wide
	var parts [][]T
	for i := range n {
		parts = append(parts, l[i*len(l)/n:(i+1)*len(l)/n])
	}
	return parts
}

// crown is the topmost node above nodes, at most Wide, of one height; nil, if there is none.
func crown(l []node) node {
	switch len(l) {
	case 0:
		return nil
	case 1:
		return l[0] // a branch above it alone would be a topmost one of fewer than 2
	}
	return newBranch(l)
}

// concat is the topmost node above what two have, one behind the other. Either may be nil.
func concat(a, b node) node {
	switch {
	case a == nil:
		return b
	case b == nil:
		return a
	}
	return crown(join(a, b))
}

// join is what two nodes have, one behind the other, in one or two nodes of the higher one's height. Either may be as narrow as a topmost one; the answer is that narrow only if it is one, and none of that height was wider.
func join(a, b node) []node {
	switch ha, hb := heightOf(a), heightOf(b); {
	case ha > hb:
		kids := a.(*branch).kids
		last := len(kids) - 1
		return branches(slices.Concat(kids[:last], join(kids[last], b)))
	case ha < hb:
		kids := b.(*branch).kids
		return branches(slices.Concat(join(a, kids[0]), kids[1:]))
	}
	na, nb := countOf(a), countOf(b)
	if na >= Narrow && nb >= Narrow && na+nb > Wide {
		return []node{a, b}
	}
	if x, ok := a.(*leaf); ok {
		return leaves(slices.Concat(x.items, b.(*leaf).items))
	}
	return branches(slices.Concat(a.(*branch).kids, b.(*branch).kids))
}

// cut is the topmost node above a node's items from one index on, up to another one; nil, if there is none.
func cut(n node, from, to int) node {
	if from == to {
		return nil
	}
	if from == 0 && to == n.sum().N {
		return n
	}
	if x, ok := n.(*leaf); ok {
		return newLeaf(x.items[from:to])
	}
	return cutBranch(n.(*branch), from, to)
}

// cutBranch cuts at most two of a branch's nodes; those between are taken whole.
func cutBranch(b *branch, from, to int) node {
	var front, back node
	var whole []node
	at := 0
	for _, k := range b.kids {
		n := k.sum().N
		first, end := max(from-at, 0), min(to-at, n)
		at += n
		switch {
		case first >= end: // it has none of them
		case first == 0 && end == n:
			whole = append(whole, k)
		case first > 0:
			front = cut(k, first, end)
		default:
			back = cut(k, first, end)
		}
	}
	return concat(concat(front, crown(whole)), back)
}

// gather is a list with a node's items behind it.
func gather(l []item.Item, n node) []item.Item {
	switch x := n.(type) {
	case *leaf:
		l = append(l, x.items...)
	case *branch:
		for _, k := range x.kids {
			l = gather(l, k)
		}
	}
	return l
}

// pick is a node's item at an index at which there is one.
func pick(n node, i int) item.Item {
	if x, ok := n.(*leaf); ok {
		return x.items[i]
	}
	kids := n.(*branch).kids
	k := 0
	for i >= kids[k].sum().N {
		i -= kids[k].sum().N
		k++
	}
	return pick(kids[k], i)
}

// find is the place of the first item with which far holds of the sum of all up to it. Behind it, far must hold too.
func find(n node, far func(item.Sum) bool) Place {
	var p Place
down:
	for n != nil {
		p.Visits++
		switch x := n.(type) {
		case *branch:
			for _, k := range x.kids {
				s := item.Add(p.Before, k.sum())
				if far(s) {
					n = k
					continue down
				}
				p.Before = s
			}
		case *leaf:
			for _, i := range x.items {
				s := item.Add(p.Before, item.Of(i))
				if far(s) {
					break down
				}
				p.Before = s
			}
		}
		break // nothing is so far: the place is behind all
	}
	p.Index = p.Before.N
	return p
}

// wellCrowned tells whether a topmost node has as many as it must.
func wellCrowned(n node) bool {
	if _, ok := n.(*leaf); ok {
		return countOf(n) >= 1
	}
	return countOf(n) >= 2
}

// sound tells whether a node is not above Wide and has its sum, and whether all below it are sound, of one height, and not below Narrow.
func sound(n node) bool {
	if countOf(n) > Wide {
		return false
	}
	if x, ok := n.(*leaf); ok {
		return x.all == item.All(x.items)
	}
	b := n.(*branch)
	for _, k := range b.kids {
		if heightOf(k) != b.high-1 || countOf(k) < Narrow || !sound(k) {
			return false
		}
	}
	return b.all == sumOf(b.kids...)
}
