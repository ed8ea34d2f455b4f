package weave

import (
	"bodkin/api"
	"bodkin/item"
	"bodkin/utf"
)

// A piece's sizes: its runes of the buffer, and those of the woven text.
const (
	inBuffer = iota
	inWoven
)

// pieces are the buffer from one place on, up to another one, and inlays in it, in their order.
func pieces(l []api.Inlay, from, to int) []item.Item {
	var row []item.Item
	upTo := func(at int) {
		if at > from {
			row = append(row, piece(0, at-from, at-from))
		}
		from = at
	}
	for _, x := range l {
		upTo(x.At)
		row = append(row, piece(x.ID, 0, utf.Count(x.Text)))
	}
	upTo(to)
	return row
}

// piece is a piece as an item.
func piece(id, buffer, woven int) item.Item {
	return item.Item{ID: id, D: [3]int{inBuffer: buffer, inWoven: woven}}
}

// plain tells whether a piece is the buffer's.
func plain(i item.Item) bool { return i.ID == 0 }
