package source

import (
	"iter"
	"slices"

	"bodkin/api"
	"bodkin/cells"
	"bodkin/utf"
)

// What a spot has.
const (
	inLine = iota // a rune of the buffer that is no shown break
	hidden        // a hidden span, which begins there
	end           // a line's end: a shown break, or the buffer's end
)

// spot is a place that is not within a hidden span, and what is there.
type spot struct {
	at, has int
	own     rune // the rune in the line
}

// chunk is how many runes are read at once: few, so that who wants one line does not read much behind it.
const chunk = 64

// begins tells whether a line begins at a place.
func (t Text) begins(at int) bool {
	if at == 0 {
		return true
	}
	ahead, e := t.Rope.At(at - 1)
	return e == api.OK && ahead == api.NewLine && !t.hides(at-1)
}

// hides tells whether the rune at a place is in a hidden span.
func (t Text) hides(at int) bool {
	return slices.ContainsFunc(t.Hidden, func(x api.Span) bool { return x.From <= at && at < x.To })
}

// lines hands out the lines from a beginning on.
func (t Text) lines(from int) iter.Seq[Line] {
	return func(yield func(Line) bool) {
		l := Line{From: from}
		inlaid := t.Inlays.Within(from, t.Inlays.Len())
		for s := range t.spots(from) {
			for len(inlaid) > 0 && inlaid[0].At <= s.at {
				if inlaid[0].At == s.at { // one ahead of the spot is within a hidden span
					l.Parts = append(l.Parts, virt(inlaid[0]))
				}
				inlaid = inlaid[1:]
			}
			switch s.has {
			case inLine:
				l.Parts = plain(l.Parts, s)
			case hidden:
				l.Parts = append(l.Parts, cells.Part{Kind: api.Folded, At: s.at})
			case end:
				l.To = s.at
				if !yield(l) {
					return
				}
				l = Line{From: s.at + 1}
			}
		}
	}
}

// virt is an inlay's part.
func virt(x api.Inlay) cells.Part {
	return cells.Part{Kind: api.Virt, At: x.At, Runes: utf.Decode(x.Text)}
}

// plain are parts with a rune of the buffer behind them: in the last one, if nothing stands between.
func plain(l []cells.Part, s spot) []cells.Part {
	last := len(l) - 1
	if last < 0 || l[last].Kind != api.Plain {
		return append(l, cells.Part{Kind: api.Plain, At: s.at, Runes: []rune{s.own}})
	}
	l[last].Runes = append(l[last].Runes, s.own)
	return l
}

// spots hands out the spots from a line's beginning on.
func (t Text) spots(from int) iter.Seq[spot] {
	return func(yield func(spot) bool) {
		at := from
		for _, x := range t.Hidden {
			if x.From < from {
				continue
			}
			if !t.runes(at, x.From, yield) || !yield(spot{at: x.From, has: hidden}) {
				return
			}
			at = x.To
		}
		n := t.Rope.Runes()
		if t.runes(at, n, yield) {
			yield(spot{at: n, has: end})
		}
	}
}

// runes yields the spots from one place on, up to another one, where nothing is hidden between; false tells that no more of them are wanted.
func (t Text) runes(from, to int, yield func(spot) bool) bool {
	for ; from < to; from += chunk {
		s, _ := t.Rope.Slice(from, min(from+chunk, to)) // there is no error: it is a span of the buffer's places
		for k, r := range utf.Decode(s) {
			x := spot{at: from + k, own: r}
			if r == api.NewLine {
				x = spot{at: from + k, has: end}
			}
			if !yield(x) {
				return false
			}
		}
	}
	return true
}
