// Package width is layer 2: it tells how many cells runes take.
package width

import (
	"slices"

	"bodkin/api"
)

// Most is how many ranges there may be.
const Most = 200

// Range is runes, from From to To, both in it.
type Range struct{ From, To rune }

// Table tells widths. A nil one tells 1 of each rune.
type Table struct {
	zero, wide []Range
}

var plainZero = [...]Range{
	{0x300, 0x36f},
	{0x200b, 0x200f},
	{0xfe00, 0xfe0f},
}

var plainWide = [...]Range{
	{0x1100, 0x115f},
	{0x2e80, 0x303e},
	{0x3041, 0x4dbf},
	{0x4e00, 0x9fff},
	{0xac00, 0xd7a3},
	{0xf900, 0xfaff},
	{0xff00, 0xff60},
	{0x1f300, 0x1f64f},
}

// New is the table of ranges: of runes that take no cell, and of runes that take two.
func New(zero, wide []Range) (*Table, api.Errno) {
	if len(zero) > Most || len(wide) > Most {
		return nil, api.ErrLong
	}
	if !right(zero) || !right(wide) {
		return nil, api.ErrForm
	}
	return &Table{zero: slices.Clone(zero), wide: slices.Clone(wide)}, api.OK
}

// right tells whether each range is one and begins behind the end of the one ahead.
func right(l []Range) bool {
	ahead := rune(-1) // so that the first range may begin at 0, but not below
	for _, g := range l {
		if g.From <= ahead || g.From > g.To {
			return false
		}
		ahead = g.To
	}
	return true
}

// Plain is the plain table.
func Plain() *Table {
	zero, wide := plainZero, plainWide // copies: no table keeps a piece of another one's
	return &Table{zero: zero[:], wide: wide[:]}
}

// Of is how many cells a rune takes.
func (t *Table) Of(r rune) int {
	switch {
	case t == nil:
		return 1
	case within(t.zero, r):
		return 0
	case within(t.wide, r):
		return 2
	}
	return 1
}

// within tells whether a rune is in one of some ranges that are right.
func within(l []Range, r rune) bool {
	from, to, found := 0, len(l), false
halving:
	for from < to {
		mid := from + (to-from)/2
		switch g := l[mid]; {
		case r < g.From:
			to = mid
		case r > g.To:
			from = mid + 1
		default:
			found = true
			break halving
		}
	}
	return found
}

// Sum is how many all take.
func (t *Table) Sum(l []rune) int {
	n := 0
	for _, r := range l {
		n += t.Of(r)
	}
	return n
}
