package rope

import (
	"bodkin/api"
	"bodkin/item"
	"bodkin/utf"
)

// A piece's sizes: its bytes, its runes, and its breaks.
const (
	inBytes = iota
	inRunes
	inBreaks
)

// cut are runes' pieces: the fewest that are not above Piece, as even as can be, so that of several none is below Least.
func cut(l []rune) []item.Item {
	n := (len(l) + Piece - 1) / Piece
	var row []item.Item
	for i := range n {
		row = append(row, piece(utf.Encode(l[i*len(l)/n:(i+1)*len(l)/n])))
	}
	return row
}

// piece is a text as an item.
func piece(text string) item.Item {
	all := reach(text, func([3]int) bool { return false })
	return item.Item{D: all, Text: text}
}

// reach are the sizes of what is ahead of a text's first place with which far holds; of all of it, if there is none.
func reach(text string, far func([3]int) bool) [3]int {
	var d [3]int
	for at, r := range text {
		d[inBytes] = at
		if far(d) {
			return d
		}
		d[inRunes]++
		if r == api.NewLine {
			d[inBreaks]++
		}
	}
	d[inBytes] = len(text)
	return d
}
