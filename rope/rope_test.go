package rope_test

import (
	"math"
	"slices"
	"strconv"
	"strings"
	"testing"

	"bodkin/api"
	"bodkin/rope"
)

// mix is a number from 0 to below n that is hard to foresee and ever the same.
func mix(seed, n int) int {
	x := uint64(seed)*0x9e3779b97f4a7c15 + 0x632be59bd9b4e019
	x ^= x >> 29
	x *= 0xbf58476d1ce4e5b9
	x ^= x >> 32
	return int(x % uint64(n))
}

// some are n runes of one to four bytes, with breaks among them.
func some(n, seed int) []rune {
	kinds := []rune{'a', 'b', '\n', 0xe9, 0x4e00, 0x1f600, '\t', api.Bad, 0}
	var l []rune
	for i := range n {
		l = append(l, kinds[mix(seed+i, len(kinds))])
	}
	return l
}

// of is the rope of runes.
func of(t *testing.T, l []rune) *rope.Rope {
	t.Helper()
	r, e := rope.New(string(l))
	if e != api.OK || r == nil {
		t.Fatalf("New of %d runes: %v", len(l), e)
	}
	return r
}

// hold tells what is wrong with a rope of runes.
func hold(t *testing.T, what string, r *rope.Rope, l []rune) {
	t.Helper()
	text := string(l)
	breaks := strings.Count(text, "\n")
	if r.Text() != text {
		t.Fatalf("%s: Text: %q, not %q", what, r.Text(), text)
	}
	if r.Bytes() != len(text) || r.Runes() != len(l) || r.Breaks() != breaks {
		t.Fatalf("%s: %d, %d, %d of %q", what, r.Bytes(), r.Runes(), r.Breaks(), text)
	}
	holdPieces(t, what, r, l)
	holdPlaces(t, what, r, l)
	holdBytes(t, what, r, text)
	holdBreaks(t, what, r, l)
}

// holdPieces tells what is wrong with a rope's pieces, and with their tree.
func holdPieces(t *testing.T, what string, r *rope.Rope, l []rune) {
	t.Helper()
	pieces := r.Pieces()
	if strings.Join(pieces, "") != string(l) {
		t.Fatalf("%s: Pieces: %q", what, pieces)
	}
	least := max(1, min(rope.Least, len(l)))
	for _, p := range pieces {
		if n := len([]rune(p)); n < least || n > rope.Piece {
			t.Fatalf("%s: a piece of %d runes: %q", what, n, pieces)
		}
	}
	h := r.Height()
	if (h == 0) != (len(pieces) == 0) || h > 2 && math.Pow(4, float64(h-2)) > float64(len(pieces)+1) {
		t.Fatalf("%s: Height %d of %d pieces", what, h, len(pieces))
	}
}

// holdPlaces tells what is wrong with what is told of a rope's places.
func holdPlaces(t *testing.T, what string, r *rope.Rope, l []rune) {
	t.Helper()
	at, breaks := 0, 0
	for i := range len(l) + 1 {
		if b, e := r.ByteAt(i); b != at || e != api.OK {
			t.Fatalf("%s: ByteAt(%d): %d, %v, not %d", what, i, b, e, at)
		}
		if n, e := r.RuneAt(at); n != i || e != api.OK {
			t.Fatalf("%s: RuneAt(%d): %d, %v, not %d", what, at, n, e, i)
		}
		if k, e := r.Ahead(i); k != breaks || e != api.OK {
			t.Fatalf("%s: Ahead(%d): %d, %v, not %d", what, i, k, e, breaks)
		}
		if n := r.Visits(i); n > r.Height() || (n == 0) != (len(l) == 0) {
			t.Fatalf("%s: Visits(%d): %d, Height %d", what, i, n, r.Height())
		}
		if i == len(l) {
			break
		}
		if c, e := r.At(i); c != l[i] || e != api.OK {
			t.Fatalf("%s: At(%d): %x, %v, not %x", what, i, c, e, l[i])
		}
		at += len(string(l[i]))
		if l[i] == '\n' {
			breaks++
		}
	}
	for _, i := range []int{-1, len(l) + 1, math.MinInt, math.MaxInt} {
		if b, e := r.ByteAt(i); b != 0 || e != api.ErrArg {
			t.Fatalf("%s: ByteAt(%d): %d, %v", what, i, b, e)
		}
		if k, e := r.Ahead(i); k != 0 || e != api.ErrArg {
			t.Fatalf("%s: Ahead(%d): %d, %v", what, i, k, e)
		}
		if n := r.Visits(i); n != 0 {
			t.Fatalf("%s: Visits(%d): %d", what, i, n)
		}
	}
	for _, i := range []int{-1, len(l), len(l) + 1, math.MinInt, math.MaxInt} {
		if c, e := r.At(i); c != 0 || e != api.ErrArg {
			t.Fatalf("%s: At(%d): %x, %v", what, i, c, e)
		}
	}
}

// holdBytes tells what is wrong with RuneAt.
func holdBytes(t *testing.T, what string, r *rope.Rope, text string) {
	t.Helper()
	begins := map[int]int{len(text): len([]rune(text))}
	n := 0
	for at := range text {
		begins[at] = n
		n++
	}
	for at := range len(text) + 1 {
		want, ok := begins[at]
		e := api.OK
		if !ok {
			e = api.ErrMid
		}
		if got, err := r.RuneAt(at); got != want || err != e {
			t.Fatalf("%s: RuneAt(%d): %d, %v, not %d, %v", what, at, got, err, want, e)
		}
	}
	for _, at := range []int{-1, len(text) + 1, math.MinInt, math.MaxInt} {
		if got, e := r.RuneAt(at); got != 0 || e != api.ErrArg {
			t.Fatalf("%s: RuneAt(%d): %d, %v", what, at, got, e)
		}
	}
}

// holdBreaks tells what is wrong with Behind.
func holdBreaks(t *testing.T, what string, r *rope.Rope, l []rune) {
	t.Helper()
	begins := []int{0}
	for i, c := range l {
		if c == '\n' {
			begins = append(begins, i+1)
		}
	}
	for k, want := range begins {
		if at, e := r.Behind(k); at != want || e != api.OK {
			t.Fatalf("%s: Behind(%d): %d, %v, not %d", what, k, at, e, want)
		}
	}
	for _, k := range []int{-1, len(begins), math.MinInt, math.MaxInt} {
		if at, e := r.Behind(k); at != 0 || e != api.ErrArg {
			t.Fatalf("%s: Behind(%d): %d, %v", what, k, at, e)
		}
	}
}

// 7.1 to 7.4, 7.6
func TestNewOfEachLength(t *testing.T) {
	for n := range 300 {
		l := some(n, 1000*n)
		hold(t, "New", of(t, l), l)
	}
}

// 7.1 to 7.4: breaks alone, none, at the beginnings and ends of pieces; runes of one length alone.
func TestNewOfRunesOfAKind(t *testing.T) {
	for _, s := range []string{"\n", "a", "\u00e9", "\u4e00", "\U0001f600", "\x00", "\ufffd", "a\n", "\n\u4e00", "\r\n", "\u2028", strings.Repeat("a", 15) + "\n", "\n" + strings.Repeat("\u4e00", 15)} {
		for n := range 70 {
			l := []rune(strings.Repeat(s, n))
			hold(t, "New", of(t, l), l)
		}
	}
}

// 7.1: as many runes as a text may have, of however many bytes.
func TestNewMost(t *testing.T) {
	for _, s := range []string{"a", "\n", "\u4e00", "\U0001f600", "\xff", "\xf0\x9f\x98"} {
		n := len([]rune(s))
		full := strings.Repeat(s, api.MaxText/n) + strings.Repeat("b", api.MaxText%n)
		r, e := rope.New(full)
		if e != api.OK || r.Runes() != api.MaxText {
			t.Fatalf("New of %q: %v, %d", s, e, r.Runes())
		}
		for _, more := range []string{"a", "\x80", s, full} {
			if r, e := rope.New(full + more); e != api.ErrFull || r != nil {
				t.Errorf("New of %q and %d bytes: %v", s, len(more), e)
			}
		}
	}
	l := some(api.MaxText, 7)
	hold(t, "the longest text", of(t, l), l)
}

// 7.1: bytes that are no rune's are api.Bad, one by one.
func TestNewIsClean(t *testing.T) {
	for _, s := range []string{"\xff", "a\x80b", "\xe4\xb8", "\xed\xa0\x80", "\xc0\x80\n", "\xf0\x9f\x98\u4e00", strings.Repeat("\xe4\n", 40)} {
		r, e := rope.New(s)
		if e != api.OK {
			t.Fatalf("New(%q): %v", s, e)
		}
		hold(t, "New", r, []rune(s))
	}
}

// 7.2
func TestSliceEverywhere(t *testing.T) {
	for _, n := range []int{0, 1, 8, 16, 17, 33, 70} {
		l := some(n, 50*n)
		r := of(t, l)
		for from := -1; from <= n+1; from++ {
			for to := -1; to <= n+1; to++ {
				s, e := r.Slice(from, to)
				if from < 0 || to < from || to > n {
					if s != "" || e != api.ErrArg {
						t.Fatalf("Slice(%d, %d) of %d: %q, %v", from, to, n, s, e)
					}
				} else if s != string(l[from:to]) || e != api.OK {
					t.Fatalf("Slice(%d, %d): %q, %v, not %q", from, to, s, e, string(l[from:to]))
				}
			}
		}
		for _, w := range [][2]int{{math.MinInt, math.MaxInt}, {0, math.MaxInt}, {math.MinInt, 0}, {math.MaxInt, math.MinInt}, {math.MaxInt, math.MaxInt}} {
			if s, e := r.Slice(w[0], w[1]); s != "" || e != api.ErrArg {
				t.Errorf("Slice%v: %q, %v", w, s, e)
			}
		}
	}
}

// 7.2: each span of texts around the edges of pieces, with nothing, little and much in its place.
func TestReplaceEverywhere(t *testing.T) {
	for _, n := range []int{0, 1, 7, 8, 9, 16, 17, 24, 40} {
		l := some(n, 60*n)
		r := of(t, l)
		for from := range n + 1 {
			for to := from; to <= n; to++ {
				for _, m := range []int{0, 1, 2, 9, 17, 40} {
					now := some(m, from+to+m)
					x, e := r.Replace(from, to, string(now))
					want := slices.Concat(l[:from], now, l[to:])
					what := "Replace(" + strconv.Itoa(from) + ", " + strconv.Itoa(to) + ") with " + strconv.Itoa(m)
					if e != api.OK || x == nil || x.Text() != string(want) {
						t.Fatalf("%s: %v, %q, not %q", what, e, x.Text(), string(want))
					}
					holdPieces(t, what, x, want)
				}
			}
		}
		hold(t, "what was replaced in", r, l)
	}
}

// 7.1 to 7.6: whatever is made of ropes, in any order: each is as it was.
func TestRopesStay(t *testing.T) {
	ropes, texts := []*rope.Rope{of(t, nil)}, [][]rune{nil}
	for k := range 1500 {
		a := mix(k, len(ropes))
		l := texts[a]
		from := mix(k+1e4, len(l)+1)
		to := from + mix(k+2e4, len(l)+1-from)
		if k%2 == 0 {
			to = min(to, from+mix(k+3e4, 12))
		}
		most := 12
		if k%5 == 0 {
			most = 100
		}
		now := some(mix(k+4e4, most), k)
		x, e := ropes[a].Replace(from, to, string(now))
		if e != api.OK {
			t.Fatalf("step %d: %v", k, e)
		}
		want := slices.Concat(l[:from], now, l[to:])
		hold(t, "step "+strconv.Itoa(k), x, want)
		if len(want) < 700 {
			ropes, texts = append(ropes, x), append(texts, want)
		}
	}
	for k := range ropes {
		hold(t, "rope "+strconv.Itoa(k), ropes[k], texts[k])
	}
}

// 7.2: rune by rune, in, and out again, at the beginning, in the middle and at the end.
func TestReplaceRuneByRune(t *testing.T) {
	for _, place := range []func(n int) int{
		func(int) int { return 0 },
		func(n int) int { return n / 2 },
		func(n int) int { return n },
	} {
		r, l := of(t, nil), []rune(nil)
		turn := func(from, to int, now []rune) {
			t.Helper()
			x, e := r.Replace(from, to, string(now))
			if e != api.OK {
				t.Fatalf("Replace(%d, %d): %v", from, to, e)
			}
			r, l = x, slices.Concat(l[:from], now, l[to:])
			hold(t, "rune by rune", r, l)
		}
		for k := range 120 {
			turn(place(len(l)), place(len(l)), some(1, k))
		}
		for len(l) > 0 {
			at := place(len(l) - 1)
			turn(at, at+1, nil)
		}
	}
}

// 7.2: bytes of one rune, put in one by one, are none.
func TestReplaceIsClean(t *testing.T) {
	r, l := of(t, []rune("x\u4e00y")), []rune("x\u4e00y")
	for _, s := range []string{"\x80", "\xb8", "\xe4", "\xe4\xb8", "a\xff\n", "\xed\xa0\x80"} {
		for at := range len(l) + 1 {
			x, e := r.Replace(at, at, s)
			if e != api.OK {
				t.Fatalf("Replace(%d, %d, %q): %v", at, at, s, e)
			}
			hold(t, "Replace", x, slices.Concat(l[:at], []rune(s), l[at:]))
		}
		x, _ := r.Replace(1, 1, s)
		r, l = x, slices.Concat(l[:1], []rune(s), l[1:])
	}
}

// 7.2
func TestReplaceErrors(t *testing.T) {
	full := strings.Repeat("\u4e00", api.MaxText)
	for _, n := range []int{0, 1, 16, 50} {
		l := some(n, 90*n)
		r := of(t, l)
		for _, w := range [][2]int{{-1, 0}, {0, -1}, {-1, -1}, {1, 0}, {n + 1, n}, {0, n + 1}, {n, n + 1}, {n + 1, n + 1}, {math.MinInt, 0}, {0, math.MaxInt}, {math.MinInt, math.MaxInt}, {math.MaxInt, math.MinInt}, {math.MaxInt, math.MaxInt}} {
			for _, s := range []string{"", "a", full + "a"} { // ErrArg comes ahead of ErrFull
				if x, e := r.Replace(w[0], w[1], s); e != api.ErrArg || x != nil {
					t.Errorf("Replace%v of %d, %d bytes: %v", w, n, len(s), e)
				}
			}
		}
		for from := range n + 1 {
			for _, to := range []int{from, n} {
				room := api.MaxText - n + to - from
				if x, e := r.Replace(from, to, strings.Repeat("\xff", room+1)); e != api.ErrFull || x != nil {
					t.Errorf("Replace(%d, %d) of %d, one too many: %v", from, to, n, e)
				}
			}
		}
		room := api.MaxText - n
		x, e := r.Replace(n, n, strings.Repeat("\xff", room))
		if e != api.OK || x.Runes() != api.MaxText {
			t.Errorf("Replace of %d, as many as may be: %v", n, e)
		}
		hold(t, "behind errors", r, l)
	}
	r, _ := rope.New(full)
	if x, e := r.Replace(5, 6, "a"); e != api.OK || x.Runes() != api.MaxText {
		t.Errorf("Replace in the longest text: %v", e)
	}
	if x, e := r.Replace(5, 6, "ab"); e != api.ErrFull || x != nil {
		t.Errorf("Replace in the longest text: %v", e)
	}
}

// alike is how many texts two lists begin with that are the same.
func alike(a, b []string) int {
	n := 0
	for n < min(len(a), len(b)) && a[n] == b[n] {
		n++
	}
	return n
}

// Pieces far from what was replaced are as they were: they are not cut anew.
func TestReplaceTurnsFewPieces(t *testing.T) {
	r := of(t, some(4000, 5))
	for at := 0; at < 4000; at += 37 {
		for _, s := range []string{"", "x", strings.Repeat("y", 40)} {
			x, e := r.Replace(at, at+1, s)
			if e != api.OK {
				t.Fatal(e)
			}
			a, b := r.Pieces(), x.Pieces()
			front := alike(a, b)
			slices.Reverse(a)
			slices.Reverse(b)
			same := min(front+alike(a, b), len(a))
			if len(a)-same > 3 {
				t.Fatalf("Replace at %d: %d of %d pieces are as they were", at, same, len(a))
			}
		}
	}
}

// The document's example.
func TestExample(t *testing.T) {
	r := of(t, []rune{'a', 0x4e00, 'b'})
	if n, e := r.RuneAt(4); n != 2 || e != api.OK {
		t.Errorf("RuneAt(4): %d, %v", n, e)
	}
	if n, e := r.RuneAt(2); n != 0 || e != api.ErrMid {
		t.Errorf("RuneAt(2): %d, %v", n, e)
	}
	if x, e := r.Replace(1, 2, "xy"); e != api.OK || x.Text() != "axyb" {
		t.Errorf("Replace: %v, %q", e, x.Text())
	}
}

// A nil rope, and one that nobody made, are of an empty text.
func TestNilRope(t *testing.T) {
	for _, r := range []*rope.Rope{nil, {}, of(t, nil)} {
		hold(t, "empty", r, nil)
		if s, e := r.Slice(0, 0); s != "" || e != api.OK {
			t.Errorf("Slice(0, 0): %q, %v", s, e)
		}
		if s, e := r.Slice(0, 1); s != "" || e != api.ErrArg {
			t.Errorf("Slice(0, 1): %q, %v", s, e)
		}
		if x, e := r.Replace(0, 1, "a"); x != nil || e != api.ErrArg {
			t.Errorf("Replace(0, 1): %v", e)
		}
		if x, e := r.Replace(0, 0, strings.Repeat("a", api.MaxText+1)); x != nil || e != api.ErrFull {
			t.Errorf("Replace of too much: %v", e)
		}
		for _, n := range []int{0, 1, 20} {
			x, e := r.Replace(0, 0, string(some(n, n)))
			if e != api.OK || x == nil {
				t.Fatalf("Replace: %v", e)
			}
			hold(t, "Replace", x, some(n, n))
		}
	}
}

// R3, R6: what is answered is nobody else's, and the same is told again.
func TestAnswersAreApart(t *testing.T) {
	l := some(50, 3)
	r := of(t, l)
	one, two := r.Pieces(), r.Pieces()
	for i := range one {
		one[i] = "z"
	}
	_ = append(one, "y")
	if strings.Join(two, "") != string(l) {
		t.Errorf("two answers share: %q", two)
	}
	hold(t, "behind a change of what was handed out", r, l)
}
