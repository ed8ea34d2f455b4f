package crease

import (
	"bodkin/api"
	"bodkin/item"
)

// A piece's kind: the Tag of its items.
const (
	plain = iota
	placeholder
)

// A piece's sizes: its runes of the woven text, and those of the creased one.
const (
	inWoven = iota
	inCreased
)

// pieces are a woven text from one place on, up to another one, with placeholders for spans in it that are hidden, which rise.
func pieces(hidden []api.Span, from, to int) []item.Item {
	var row []item.Item
	for _, x := range hidden {
		row = put(row, plain, x.From-from)
		row = put(row, placeholder, x.To-x.From)
		from = x.To
	}
	return put(row, plain, to-from)
}

// put is a row with a piece behind it that has n runes of the woven text; none, if that is 0. With inlays these may be more than an item's size may be: then the piece stands in more items than one, and the ID tells how many of its runes are still to come.
func put(row []item.Item, kind, n int) []item.Item {
	for n > 0 {
		size := min(n, api.MaxInt)
		n -= size
		row = append(row, item.Item{Tag: kind, ID: n, D: [3]int{inWoven: size, inCreased: shown(kind, size, n)}})
	}
	return row
}

// shown is how many runes are shown of an item of a size, behind which more of its piece is to come. The placeholder stands in the last one: so it is behind all places that are hidden.
func shown(kind, size, more int) int {
	switch {
	case kind == plain:
		return size
	case more == 0:
		return 1
	}
	return 0
}
