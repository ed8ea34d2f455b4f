package flow

import (
	"bodkin/api"
	"bodkin/item"
	"bodkin/tree"
)

// What lines are found by: their items' sizes, and that by which tree.Find counts them.
const (
	inShown = iota
	inBuffer
	inRows
	byNumber
)

// items are lines as items.
func items(l []Line) ([]item.Item, api.Errno) {
	if len(l) > tree.Most {
		return nil, api.ErrFull
	}
	row := make([]item.Item, 0, len(l))
	for _, x := range l {
		i := item.Item{D: [3]int{inShown: x.Shown, inBuffer: x.Buffer, inRows: x.Rows}, Max: x.Wide}
		if x.Rows < 1 { // of all else that a line may not have the tree tells
			return nil, api.ErrArg
		}
		row = append(row, i)
	}
	return row, api.OK
}

// ask asks for the line of the place ahead of which so much of a size is.
type ask struct{ dim, at int }

// inside is how much of what is asked for is behind some lines that are ahead.
func (a ask) inside(lines item.Sum) int {
	if a.dim == byNumber {
		return a.at - lines.N
	}
	return a.at - lines.D[a.dim]
}

// find is the place of the line that is asked for: the last one, if nothing is behind it.
func (a ask) find(row *tree.Tree) (tree.Place, api.Errno) {
	if s := row.Sum(); s.N > 0 && a.inside(s) == 0 {
		return row.Find(byNumber, s.N-1, api.Right)
	}
	return row.Find(a.dim, a.at, api.Right)
}

// spotOf is the spot at which a line was found; inside tells of what was asked for, whichever it was.
func spotOf(p tree.Place, inside func(item.Sum) int) Spot {
	ahead := p.Before
	return Spot{Line: p.Index, Inside: inside(ahead), Row: ahead.D[inRows], Shown: ahead.D[inShown], Buffer: ahead.D[inBuffer]}
}
