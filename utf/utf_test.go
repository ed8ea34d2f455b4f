package utf_test

import (
	"math"
	"slices"
	"testing"

	"bodkin/api"
	"bodkin/utf"
)

// encoding is a rune's right encoding, by the words of the document; nil, if it has none.
func encoding(r rune) []byte {
	switch n := uint32(r); {
	case r < 0 || r > 0x10ffff || r >= 0xd800 && r <= 0xdfff:
		return nil
	case r <= 0x7f:
		return []byte{byte(n)}
	case r <= 0x7ff:
		return []byte{0b110<<5 | byte(n>>6), tail(n)}
	case r <= 0xffff:
		return []byte{0b1110<<4 | byte(n>>12), tail(n >> 6), tail(n)}
	default:
		return []byte{0b11110<<3 | byte(n>>18), tail(n >> 12), tail(n >> 6), tail(n)}
	}
}

func tail(n uint32) byte { return 0b10<<6 | byte(n&0b111111) }

// step is the rune whose right encoding stands at the beginning of a text that isn't empty, found by encoding what may stand there.
func step(s string) (rune, int) {
	heads := []struct{ mask, bits, more int }{{0x80, 0, 0}, {0xe0, 0xc0, 1}, {0xf0, 0xe0, 2}, {0xf8, 0xf0, 3}}
	for _, h := range heads {
		b := int(s[0])
		if b&h.mask != h.bits || len(s) < 1+h.more {
			continue
		}
		n := b &^ h.mask
		for i := 1; i <= h.more; i++ {
			n = n<<6 | int(s[i])&0b111111
		}
		if string(encoding(rune(n))) == s[:1+h.more] {
			return rune(n), 1 + h.more
		}
	}
	return api.Bad, 1
}

// check holds all that is told of a text against the words of the document.
func check(t *testing.T, s string) {
	t.Helper()
	var want []rune
	var clean []byte
	good := true
	for at := 0; at < len(s); {
		r, n := step(s[at:])
		if gr, gn := utf.Step(s, at); gr != r || gn != n {
			t.Fatalf("Step(%q, %d): %x, %d, not %x, %d", s, at, gr, gn, r, n)
		}
		want = append(want, r)
		clean = append(clean, encoding(r)...)
		good = good && string(encoding(r)) == s[at:at+n]
		at += n
	}
	if l := utf.Decode(s); !slices.Equal(l, want) {
		t.Fatalf("Decode(%q): %x, not %x", s, l, want)
	}
	if n := utf.Count(s); n != len(want) {
		t.Fatalf("Count(%q): %d, not %d", s, n, len(want))
	}
	if g := utf.Good(s); g != good {
		t.Fatalf("Good(%q): %v", s, g)
	}
	if c := utf.Clean(s); c != string(clean) {
		t.Fatalf("Clean(%q): %q, not %q", s, c, clean)
	}
}

// edgeRunes are the first and the last rune of each length of encoding, and those beside what has none.
var edgeRunes = []rune{0, 0x7f, 0x80, 0x7ff, 0x800, 0xd7ff, 0xe000, 0xfffd, 0xffff, 0x10000, 0x10ffff}

// none are runes without an encoding.
var none = []rune{-1, math.MinInt32, 0xd800, 0xdbff, 0xdc00, 0xdfff, 0x110000, 0x1fffff, math.MaxInt32}

// 1.1
func TestStepTellsTheRuneAtAPlace(t *testing.T) {
	s := "a\u00e9\xff\u4e00\U0001f600\ufffd\xe4\xb8"
	for _, c := range []struct {
		at   int
		r    rune
		size int
	}{
		{0, 'a', 1}, {1, 0xe9, 2}, {2, api.Bad, 1}, {3, api.Bad, 1},
		{4, 0x4e00, 3}, {5, api.Bad, 1}, {6, api.Bad, 1},
		{7, 0x1f600, 4}, {8, api.Bad, 1}, {9, api.Bad, 1}, {10, api.Bad, 1},
		{11, api.Bad, 3}, {12, api.Bad, 1}, {13, api.Bad, 1},
		{14, api.Bad, 1}, {15, api.Bad, 1},
		{16, 0, 0}, {17, 0, 0}, {-1, 0, 0}, {math.MinInt, 0, 0}, {math.MaxInt, 0, 0},
	} {
		if r, n := utf.Step(s, c.at); r != c.r || n != c.size {
			t.Errorf("Step(%q, %d): %x, %d, not %x, %d", s, c.at, r, n, c.r, c.size)
		}
	}
	for _, at := range []int{-1, 0, 1} {
		if r, n := utf.Step("", at); r != 0 || n != 0 {
			t.Errorf("Step of no text, at %d: %x, %d", at, r, n)
		}
	}
	if r, n := utf.Step("\x00", 0); r != 0 || n != 1 {
		t.Errorf("Step of a zero byte: %x, %d", r, n)
	}
}

// 1.1
func TestDecodeOfTheDocumentsExample(t *testing.T) {
	if l := utf.Decode("a\xff\xc3\xa9"); !slices.Equal(l, []rune{'a', api.Bad, 0xe9}) {
		t.Errorf("Decode: %x", l)
	}
	if l, n := utf.Decode(""), utf.Count(""); len(l) != 0 || n != 0 || !utf.Good("") || utf.Clean("") != "" {
		t.Errorf("of no text: %x, %d", l, n)
	}
}

// 1.1, 1.2
func TestBytesThatAreNoRunes(t *testing.T) {
	for _, c := range []struct {
		name, s string
		n       int // how many runes, each of them api.Bad
	}{
		{"a byte of a rune alone", "\x80", 1},
		{"the last such byte", "\xbf", 1},
		{"two bytes for 0", "\xc0\x80", 2},
		{"two bytes for 7f", "\xc1\xbf", 2},
		{"three bytes for 7ff", "\xe0\x9f\xbf", 3},
		{"three bytes for 0", "\xe0\x80\x80", 3},
		{"four bytes for ffff", "\xf0\x8f\xbf\xbf", 4},
		{"four bytes for 0", "\xf0\x80\x80\x80", 4},
		{"d800", "\xed\xa0\x80", 3},
		{"dfff", "\xed\xbf\xbf", 3},
		{"110000", "\xf4\x90\x80\x80", 4},
		{"five bytes", "\xf8\x88\x80\x80\x80", 5},
		{"six bytes", "\xfc\x84\x80\x80\x80\x80", 6},
		{"fe and ff", "\xfe\xff", 2},
		{"cut behind one of two", "\xc3", 1},
		{"cut behind two of three", "\xe4\xb8", 2},
		{"cut behind three of four", "\xf0\x9f\x98", 3},
	} {
		check(t, c.s)
		l := utf.Decode(c.s)
		if len(l) != c.n || slices.ContainsFunc(l, func(r rune) bool { return r != api.Bad }) {
			t.Errorf("%s: Decode(%q): %x", c.name, c.s, l)
		}
		if utf.Good(c.s) {
			t.Errorf("%s: Good(%q)", c.name, c.s)
		}
		if l := utf.Decode("a" + c.s + "("); len(l) != c.n+2 || l[0] != 'a' || l[c.n+1] != '(' {
			t.Errorf("%s: between others: %x", c.name, l)
		}
	}
}

// 1.1, 1.2: all texts of up to four bytes where something changes.
func TestAllTextsOfEdgeBytes(t *testing.T) {
	edges := []byte{0x00, 'a', 0x7f, 0x80, 0x8f, 0x90, 0x9f, 0xa0, 0xbd, 0xbf, 0xc0, 0xc1, 0xc2, 0xdf, 0xe0, 0xe1, 0xec, 0xed, 0xee, 0xef, 0xf0, 0xf1, 0xf3, 0xf4, 0xf5, 0xf8, 0xff}
	var grow func(s []byte)
	grow = func(s []byte) {
		check(t, string(s))
		if len(s) == 4 {
			return
		}
		for _, b := range edges {
			grow(append(s[:len(s):len(s)], b))
		}
	}
	grow(nil)
}

// 1.1
func TestAllTextsOfTwoBytes(t *testing.T) {
	for n := range 1 << 16 {
		check(t, string([]byte{byte(n >> 8), byte(n)}))
	}
}

// 1.1, 1.2, 1.3: a rune that is encoded is decoded.
func TestEveryRune(t *testing.T) {
	for r := rune(0); r <= 0x10ffff; r++ {
		want := encoding(r)
		if want == nil {
			want = encoding(api.Bad)
		}
		s := utf.Encode([]rune{r})
		if s != string(want) || utf.Size(r) != len(want) {
			t.Fatalf("%x: Encode %q, Size %d", r, s, utf.Size(r))
		}
		read, n := utf.Step(s, 0)
		if encoding(r) != nil && (read != r || n != len(s)) {
			t.Fatalf("%x: Step %x, %d", r, read, n)
		}
		if !utf.Good(s) || utf.Count(s) != 1 {
			t.Fatalf("%x: %q is not good", r, s)
		}
	}
}

// 1.2
func TestSizesOfEdgeRunes(t *testing.T) {
	for r, want := range map[rune]int{0: 1, 0x7f: 1, 0x80: 2, 0x7ff: 2, 0x800: 3, 0xd7ff: 3, 0xe000: 3, 0xffff: 3, 0x10000: 4, 0x10ffff: 4} {
		if n := utf.Size(r); n != want {
			t.Errorf("Size(%x): %d", r, n)
		}
	}
}

// 1.2
func TestRunesWithoutAnEncodingAreBad(t *testing.T) {
	for _, r := range none {
		if n := utf.Size(r); n != 3 {
			t.Errorf("Size(%x): %d", r, n)
		}
		if s := utf.Encode([]rune{'a', r, 'b'}); s != "a\xef\xbf\xbdb" {
			t.Errorf("Encode(%x): %q", r, s)
		}
	}
	if s := utf.Encode(nil); s != "" {
		t.Errorf("Encode(nil): %q", s)
	}
	if s := utf.Encode([]rune{}); s != "" {
		t.Errorf("Encode of none: %q", s)
	}
}

// 1.2: the sizes are those of the encoding.
func TestEncodeIsOneBehindTheOther(t *testing.T) {
	l := append(slices.Clone(edgeRunes), none...)
	want, n := "", 0
	for _, r := range l {
		want += utf.Encode([]rune{r})
		n += utf.Size(r)
	}
	if s := utf.Encode(l); s != want || len(s) != n {
		t.Errorf("Encode: %q, not %q", s, want)
	}
}

// 1.2: the text of a right api.Bad is right.
func TestGoodTellsBadRunesFromBadBytes(t *testing.T) {
	for s, want := range map[string]bool{"": true, "a": true, "\ufffd": true, "\ufffd\xef\xbf": false, "a\x80": false, "\x80a": false, "\u4e00\U0010ffff": true} {
		if utf.Good(s) != want {
			t.Errorf("Good(%q): %v", s, !want)
		}
	}
}

// texts are some that are good and some that are not.
var texts = []string{"", "a", "ab\n\t", "\u00e9", "\u4e00\u0301", "\U0001f600b", "\ufffd", "\x80", "\xc3", "\xe4\xb8", "\xf0\x9f\x98", "a\xff\u00e9", "\xbf\xbf", "\xed\xa0\x80", "\xc0\x80"}

// 1.3
func TestCleanIsGoodAndStays(t *testing.T) {
	for _, s := range texts {
		c := utf.Clean(s)
		if !utf.Good(c) || utf.Clean(c) != c {
			t.Errorf("Clean(%q): %q", s, c)
		}
		if c != utf.Encode(utf.Decode(s)) {
			t.Errorf("Clean(%q): %q is not Encode of Decode", s, c)
		}
		if utf.Good(s) != (c == s) {
			t.Errorf("Clean(%q): %q, Good: %v", s, c, utf.Good(s))
		}
	}
}

// 1.3
func TestWhatWasEncodedIsDecoded(t *testing.T) {
	for _, a := range edgeRunes {
		for _, b := range edgeRunes {
			if l := utf.Decode(utf.Encode([]rune{a, b})); !slices.Equal(l, []rune{a, b}) {
				t.Errorf("%x %x: %x", a, b, l)
			}
		}
	}
}

// 1.4
func TestBehindAGoodText(t *testing.T) {
	for _, a := range texts {
		if !utf.Good(a) {
			continue
		}
		for _, b := range texts {
			if !slices.Equal(utf.Decode(a+b), slices.Concat(utf.Decode(a), utf.Decode(b))) {
				t.Errorf("Decode(%q + %q)", a, b)
			}
			if utf.Count(a+b) != utf.Count(a)+utf.Count(b) || utf.Clean(a+b) != utf.Clean(a)+utf.Clean(b) || utf.Good(a+b) != utf.Good(b) {
				t.Errorf("%q behind %q", b, a)
			}
		}
	}
}

// R3
func TestWhatIsHandedInAndOutIsNotShared(t *testing.T) {
	room := []rune{'a', 0xd800, 'b', 'c'}
	l := room[:2]
	s := utf.Encode(l)
	if !slices.Equal(room, []rune{'a', 0xd800, 'b', 'c'}) {
		t.Errorf("Encode has changed its argument: %x", room)
	}
	l[0] = 'z'
	if s != "a\ufffd" {
		t.Errorf("the text has changed: %q", s)
	}
	one, two := utf.Decode("ab"), utf.Decode("ab")
	one[0] = 'z'
	_ = append(one, 'y')
	if !slices.Equal(two, []rune("ab")) {
		t.Errorf("two answers share memory: %x", two)
	}
}
