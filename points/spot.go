package points

import (
	"cmp"
	"slices"

	"bodkin/api"
	"bodkin/cells"
)

// spot is a valid point, and its place. Where it is not ahead of an inlay's cell it is an origin.
type spot struct {
	api.Point
	at     int
	inlaid bool
}

// order is below 0, if a spot is ahead of a point, above 0, if it is behind it, and 0, if it is there.
func (s spot) order(p api.Point) int {
	return cmp.Or(cmp.Compare(s.Row, p.Row), cmp.Compare(s.Col, p.Col))
}

// find is how many spots are ahead of a point, and whether the next one is there.
func find(all []spot, p api.Point) (int, bool) {
	return slices.BinarySearchFunc(all, p, spot.order)
}

// origin is the number of the last origin whose place is not above one; below 0, if there is none.
func origin(all []spot, at int) int {
	for i, s := range slices.Backward(all) {
		if !s.inlaid && s.at <= at {
			return i
		}
	}
	return -1
}

// spots are all valid points of rows, in order.
func spots(rows []api.Row) []spot {
	var all []spot
	for from := 0; from < len(rows); {
		to := from + 1
		for to < len(rows) && rows[to].Wrapped {
			to++
		}
		all = append(all, spotsOf(rows[:to], from)...)
		from = to
	}
	return all
}

// spotsOf are the valid points of the last line of some rows, that begins at one of them.
func spotsOf(rows []api.Row, from int) []spot {
	var line []api.Cell
	var ahead []spot // of each cell: the point ahead of it
	for row := from; row < len(rows); row++ {
		for col, c := range rows[row].Cells {
			if c.Kind != api.Indent {
				line = append(line, c)
				ahead = append(ahead, spot{Point: api.Point{Row: row, Col: col}, at: c.At, inlaid: c.Kind == api.Virt})
			}
		}
	}
	var all []spot
	for i, stop := range cells.Stops(line) {
		if stop {
			all = append(all, ahead[i])
		}
	}
	last := len(rows) - 1
	return append(all, spot{Point: api.Point{Row: last, Col: len(rows[last].Cells)}, at: rows[last].End})
}
