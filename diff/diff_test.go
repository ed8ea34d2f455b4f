package diff_test

import (
	"math"
	"slices"
	"testing"

	"bodkin/api"
	"bodkin/diff"
)

// row is a row of runes, from a place of the buffer on.
func row(s string, at int) api.Row {
	r := api.Row{Start: at, Buffer: at / 2}
	for _, c := range s {
		r.Cells = append(r.Cells, api.Cell{Rune: c, Kind: api.Plain, Width: 1, At: at})
		r.Width++
		at++
	}
	r.End = at
	return r
}

// rowsOf are rows of a rune each, from a place of the buffer on.
func rowsOf(s string, at int) []api.Row {
	var l []api.Row
	for i, c := range s {
		l = append(l, row(string(c), at+i))
	}
	return l
}

// tell tells of rows that rowsOf made.
func tell(l []api.Row) string {
	s := ""
	for _, r := range l {
		s += string(r.Cells[0].Rune)
	}
	return s
}

// copyOf is a copy of rows that shares nothing with them.
func copyOf(l []api.Row) []api.Row {
	l = slices.Clone(l)
	for i, r := range l {
		l[i].Cells = slices.Clone(r.Cells)
	}
	return l
}

// equal tells whether two rows are the same, also where in the buffer they are.
func equal(a, b api.Row) bool {
	return slices.Equal(a.Cells, b.Cells) && a.Start == b.Start && a.End == b.End && a.Buffer == b.Buffer && a.Wrapped == b.Wrapped && a.Folded == b.Folded && a.Width == b.Width
}

// The document's example.
func TestExample(t *testing.T) {
	if p := diff.Least(rowsOf("abc", 0), rowsOf("axyc", 5)); p != (api.RowPatch{OldFrom: 1, OldTo: 2, NewFrom: 1, NewTo: 3}) {
		t.Errorf("Least: %v", p)
	}
}

// 25.1: each thing of a row by itself tells it from another one, or plays no part.
func TestSame(t *testing.T) {
	full := api.Row{
		Cells: []api.Cell{{Rune: 'a', Kind: api.Plain, Width: 1, At: 3}, {Rune: '\u4e00', Kind: api.Virt, Width: 2, At: 4}, {Rune: ' ', Kind: api.Filler, Width: 1, At: 4}},
		Start: 3, End: 5, Buffer: 1, Width: 4,
	}
	for i, c := range []struct {
		want bool
		turn func(r *api.Row)
	}{
		{true, func(r *api.Row) {}},
		{true, func(r *api.Row) { r.Start = 0 }},
		{true, func(r *api.Row) { r.End = 9 }},
		{true, func(r *api.Row) { r.Buffer = 0 }},
		{true, func(r *api.Row) { r.Cells[0].At = 9 }},
		{true, func(r *api.Row) { r.Cells[2].At = -1 }},
		{true, func(r *api.Row) {
			r.Start, r.End, r.Buffer, r.Cells[0].At, r.Cells[1].At, r.Cells[2].At = 7, 8, 9, 1, 2, 3
		}},
		{false, func(r *api.Row) { r.Wrapped = true }},
		{false, func(r *api.Row) { r.Folded = true }},
		{false, func(r *api.Row) { r.Width = 5 }},
		{false, func(r *api.Row) { r.Cells = r.Cells[:2] }},
		{false, func(r *api.Row) { r.Cells = r.Cells[1:] }},
		{false, func(r *api.Row) { r.Cells = nil }},
		{false, func(r *api.Row) { r.Cells = append(r.Cells, api.Cell{}) }},
		{false, func(r *api.Row) { r.Cells[0], r.Cells[2] = r.Cells[2], r.Cells[0] }},
		{false, func(r *api.Row) { r.Cells[0].Rune = 'b' }},
		{false, func(r *api.Row) { r.Cells[2].Rune = '\t' }},
		{false, func(r *api.Row) { r.Cells[0].Kind = api.Virt }},
		{false, func(r *api.Row) { r.Cells[2].Kind = api.Indent }},
		{false, func(r *api.Row) { r.Cells[1].Width = 1 }},
		{false, func(r *api.Row) { r.Cells[0].Width, r.Cells[2].Width = 0, 2 }},
	} {
		other := copyOf([]api.Row{full})[0]
		c.turn(&other)
		if diff.Same(full, other) != c.want || diff.Same(other, full) != c.want {
			t.Errorf("%d: Same of %v and %v: %v", i, full, other, !c.want)
		}
		if !diff.Same(other, copyOf([]api.Row{other})[0]) {
			t.Errorf("%d: %v is not like itself", i, other)
		}
	}
	if !diff.Same(api.Row{}, api.Row{Cells: []api.Cell{}, Start: 4}) {
		t.Error("no cells and no cells are unlike")
	}
}

// 25.1: all rows of at most two cells of few kinds, each against each.
func TestSameOfAllSmall(t *testing.T) {
	var cells []api.Cell
	for i := range 16 {
		cells = append(cells, api.Cell{Rune: 'a' + rune(i&1), Kind: api.Plain + i>>1&1, Width: 1 + i>>2&1, At: i >> 3})
	}
	all := [][]api.Cell{nil}
	for _, a := range cells {
		all = append(all, []api.Cell{a})
		for _, b := range cells {
			all = append(all, []api.Cell{a, b})
		}
	}
	for i, a := range all {
		for _, b := range all {
			want := len(a) == len(b)
			for k := 0; want && k < len(a); k++ {
				want = a[k].Rune == b[k].Rune && a[k].Kind == b[k].Kind && a[k].Width == b[k].Width
			}
			if diff.Same(api.Row{Cells: a, Start: i}, api.Row{Cells: b}) != want {
				t.Fatalf("Same of %v and %v: %v", a, b, !want)
			}
		}
	}
}

// fitting are all patches that fit numbers of rows, made of how many rows are ahead and behind.
func fitting(n, m int) map[api.RowPatch]bool {
	all := map[api.RowPatch]bool{}
	for ahead := range min(n, m) + 1 {
		for behind := range min(n, m) - ahead + 1 {
			all[api.RowPatch{OldFrom: ahead, OldTo: n - behind, NewFrom: ahead, NewTo: m - behind}] = true
		}
	}
	return all
}

// each calls do with all patches of numbers from -1 to most.
func each(most int, do func(p api.RowPatch)) {
	n := most + 2
	for i := range n * n * n * n {
		do(api.RowPatch{OldFrom: i%n - 1, OldTo: i/n%n - 1, NewFrom: i/n/n%n - 1, NewTo: i/n/n/n - 1})
	}
}

// 25.1: all small patches and numbers of rows, also those that there can't be.
func TestFits(t *testing.T) {
	for n := -2; n <= 4; n++ {
		for m := -2; m <= 4; m++ {
			want := map[api.RowPatch]bool{}
			if n >= 0 && m >= 0 {
				want = fitting(n, m)
			}
			each(5, func(p api.RowPatch) {
				if diff.Fits(p, n, m) != want[p] {
					t.Fatalf("Fits(%v, %d, %d): %v", p, n, m, !want[p])
				}
			})
		}
	}
}

// 25.1: the ends of the numbers.
func TestFitsFar(t *testing.T) {
	const least, most = math.MinInt, math.MaxInt
	for i, c := range []struct {
		p    api.RowPatch
		n, m int
		want bool
	}{
		{api.RowPatch{}, most, most, true},
		{api.RowPatch{OldTo: most, NewTo: most}, most, most, true},
		{api.RowPatch{OldTo: most}, most, 0, true},
		{api.RowPatch{OldFrom: most, OldTo: most, NewFrom: most, NewTo: most}, most, most, true},
		{api.RowPatch{OldFrom: 1, OldTo: 2, NewFrom: 1, NewTo: most}, 2, most, true},
		{api.RowPatch{OldTo: least}, 0, 0, false},
		{api.RowPatch{OldFrom: least, OldTo: 0, NewFrom: least}, 0, 0, false},
		{api.RowPatch{OldFrom: most, OldTo: least, NewFrom: most, NewTo: least}, 0, 0, false},
		{api.RowPatch{NewTo: most}, 0, 0, false},
		{api.RowPatch{NewTo: least}, 0, 0, false},
		{api.RowPatch{}, least, least, false},
		{api.RowPatch{}, most, -1, false},
		{api.RowPatch{}, 0, least, false},
		{api.RowPatch{OldTo: most, NewTo: 1}, most, most, false},
		{api.RowPatch{OldTo: 1}, least, most, false}, // least less 1 is most in an int
		{api.RowPatch{NewTo: 1}, most, least, false},
	} {
		if diff.Fits(c.p, c.n, c.m) != c.want {
			t.Errorf("%d: Fits(%v, %d, %d): %v", i, c.p, c.n, c.m, !c.want)
		}
	}
}

// texts are all of at most n of the runes a and b.
func texts(n int) []string {
	all := []string{""}
	for i := 0; i < len(all); i++ {
		if len(all[i]) < n {
			all = append(all, all[i]+"a", all[i]+"b")
		}
	}
	return all
}

// left are both texts, without what is alike of them from the beginning on, then from the end; and how many are ahead of these.
func left(a, b string) (string, string, int) {
	n := 0
	for len(a) > 0 && len(b) > 0 && a[0] == b[0] {
		a, b, n = a[1:], b[1:], n+1
	}
	for len(a) > 0 && len(b) > 0 && a[len(a)-1] == b[len(b)-1] {
		a, b = a[:len(a)-1], b[:len(b)-1]
	}
	return a, b, n
}

// 25.1 to 25.4: all patches of all short lists of rows that are alike or not.
func TestAllSmall(t *testing.T) {
	for _, a := range texts(4) {
		for _, b := range texts(4) {
			holdPair(t, a, b)
		}
	}
}

// holdPair tells what is wrong of rows before and then.
func holdPair(t *testing.T, a, b string) {
	t.Helper()
	before, then := rowsOf(a, 0), rowsOf(b, 7) // none stands where another one does
	fits := fitting(len(a), len(b))
	least := diff.Least(before, then)
	was, is, n := left(a, b)
	if want := (api.RowPatch{OldFrom: n, OldTo: n + len(was), NewFrom: n, NewTo: n + len(is)}); least != want {
		t.Fatalf("Least(%q, %q): %v, not %v", a, b, least, want)
	}
	if !diff.Sound(before, then, least) {
		t.Fatalf("Least(%q, %q): %v is not sound", a, b, least)
	}
	each(5, func(p api.RowPatch) {
		want := fits[p] && a[:p.OldFrom] == b[:p.NewFrom] && a[p.OldTo:] == b[p.NewTo:]
		if diff.Sound(before, then, p) != want {
			t.Fatalf("Sound(%q, %q, %v): %v", a, b, p, !want)
		}
		if !want {
			return
		}
		if p.OldTo-p.OldFrom < least.OldTo-least.OldFrom {
			t.Fatalf("Least(%q, %q): %v, but %v is less", a, b, least, p)
		}
		l, e := diff.Apply(before, p, then[p.NewFrom:p.NewTo])
		if e != api.OK || !slices.EqualFunc(l, then, diff.Same) {
			t.Fatalf("Apply(%q, %v, ..) is not %q: %q, %v", a, p, b, tell(l), e)
		}
	})
}

// 25.2: Apply of all small patches, of as many rows as they have place for, and of more and less.
func TestApply(t *testing.T) {
	for n := range 4 {
		before := rowsOf("abc"[:n], 0)
		for k := range 4 {
			rows := rowsOf("xyz"[:k], 20)
			want := map[api.RowPatch]string{}
			for from := range n + 1 {
				for to := from; to <= n; to++ {
					want[api.RowPatch{OldFrom: from, OldTo: to, NewFrom: from, NewTo: from + k}] = "abc"[:from] + "xyz"[:k] + "abc"[to:n]
				}
			}
			each(7, func(p api.RowPatch) {
				s, ok := want[p]
				l, e := diff.Apply(before, p, rows)
				switch {
				case !ok && (e != api.ErrArg || len(l) > 0):
					t.Fatalf("Apply(%d rows, %v, %d rows): %q, %v", n, p, k, tell(l), e)
				case ok && (e != api.OK || tell(l) != s):
					t.Fatalf("Apply(%d rows, %v, %d rows): %q, %v, not %q", n, p, k, tell(l), e, s)
				}
				for _, r := range l { // all that a row has goes with it
					if i := slices.IndexFunc(slices.Concat(before, rows), func(x api.Row) bool { return equal(x, r) }); i < 0 {
						t.Fatalf("Apply(%d rows, %v, %d rows): %v is none of them", n, p, k, r)
					}
				}
			})
		}
	}
}

// 25.2: numbers that no rows have.
func TestApplyFar(t *testing.T) {
	far := []int{math.MinInt, math.MinInt + 1, -1, 0, 1, 2, math.MaxInt - 1, math.MaxInt}
	n := len(far)
	before := rowsOf("ab", 0)
	for i := range n * n * n * n {
		p := api.RowPatch{OldFrom: far[i%n], OldTo: far[i/n%n], NewFrom: far[i/n/n%n], NewTo: far[i/n/n/n]}
		for k := range 3 {
			right := 0 <= p.OldFrom && p.OldFrom <= p.OldTo && p.OldTo <= 2 && p.NewFrom == p.OldFrom && p.NewTo == p.OldFrom+k
			want, f := "", api.ErrArg
			if right {
				want, f = "ab"[:p.OldFrom]+"ab"[:k]+"ab"[p.OldTo:], api.OK
			}
			if l, e := diff.Apply(before, p, before[:k]); tell(l) != want || e != f {
				t.Fatalf("Apply(ab, %v, %d rows): %q, %v, not %q, %v", p, k, tell(l), e, want, f)
			}
		}
		if want := fitting(2, 2)[p]; diff.Sound(before, before, p) != want {
			t.Fatalf("Sound of ab, ab and %v: %v", p, !want)
		}
	}
}

// R2: no rows are nil or empty.
func TestNothing(t *testing.T) {
	for _, none := range [][]api.Row{nil, {}} {
		if p := diff.Least(none, nil); p != (api.RowPatch{}) || !diff.Sound(nil, none, p) {
			t.Errorf("Least of nothing: %v", p)
		}
		if l, e := diff.Apply(none, api.RowPatch{}, none); len(l) > 0 || e != api.OK {
			t.Errorf("Apply of nothing: %v, %v", l, e)
		}
		if l, e := diff.Apply(none, api.RowPatch{NewTo: 2}, rowsOf("ab", 0)); tell(l) != "ab" || e != api.OK {
			t.Errorf("Apply to nothing: %v, %v", l, e)
		}
	}
}

// R3: what is handed in stays as it is, spare room too; what is answered shares nothing with it, nor do two rows share.
func TestNothingIsShared(t *testing.T) {
	before, rows := append(make([]api.Row, 0, 9), rowsOf("abcde", 0)...), append(make([]api.Row, 0, 9), rowsOf("xy", 9)...)
	rows[1] = rows[0] // one row that is put in twice
	was, put := copyOf(before[:9]), copyOf(rows[:9])
	hold := func() {
		t.Helper()
		if !slices.EqualFunc(before[:9], was, equal) || !slices.EqualFunc(rows[:9], put, equal) {
			t.Fatal("what was handed in has changed")
		}
	}
	p := api.RowPatch{OldFrom: 1, OldTo: 3, NewFrom: 1, NewTo: 3}
	diff.Least(before, rows)
	diff.Sound(before, before, p)
	hold()
	l, e := diff.Apply(before, p, rows)
	if e != api.OK || tell(l) != "axxde" {
		t.Fatalf("Apply: %q, %v", tell(l), e)
	}
	want := copyOf(l)
	for i := range l {
		clear(l[i].Cells[:cap(l[i].Cells)])
		if !slices.EqualFunc(l[i+1:], want[i+1:], equal) {
			t.Fatalf("rows behind %d share its memory", i)
		}
	}
	clear(l[:cap(l)])
	hold()
}
