package patch

import "bodkin/api"

// endless is how long the piece behind all changes is: it reaches further than a normal patch's numbers, wherever it begins.
const endless = 2 * api.MaxInt

// piece is something that is kept: where it was, where it is now, and how long it is (1 at least).
type piece struct{ old, now, n int }

// kept hands on each piece that stays where all things of a list, which rise, are replaced; by tells of a thing which span it replaces, and how long that is then.
func kept[T any](l []T, by func(T) (api.Span, int), each func(piece)) {
	old, now := 0, 0
	for _, x := range l {
		span, more := by(x)
		n := span.From - old
		if n > 0 {
			each(piece{old, now, n})
		}
		old, now = span.To, now+n+more
	}
	each(piece{old, now, endless})
}

// keptByBoth hands on each piece that a patch keeps, and another one behind it.
func keptByBoth(a, b []Change, each func(piece)) {
	var rest []piece // of b, from the first one on that may have something of a's next one
	kept(b, changed, func(q piece) { rest = append(rest, q) })
	kept(a, changed, func(p piece) {
		for len(rest) > 0 {
			q := rest[0]
			from, to := max(p.now, q.old), min(p.now+p.n, q.old+q.n)
			if from < to {
				each(piece{p.old + from - p.now, q.now + from - q.old, to - from})
			}
			if q.old+q.n > p.now+p.n {
				return
			}
			rest = rest[1:]
		}
	})
}

// between are the changes between the pieces that are handed on, and ahead of the first one.
func between(hand func(each func(piece))) []Change {
	var l []Change
	var c Change // it begins behind the last piece; the next one tells its end
	hand(func(p piece) {
		c.Old.To, c.New.To = p.old, p.now
		if !c.nothing() {
			l = append(l, c)
		}
		c.Old.From, c.New.From = p.old+p.n, p.now+p.n
	})
	return l
}
