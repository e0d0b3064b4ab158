package volume_test

import (
	"fmt"
	"slices"
	"testing"

	"radome/api"
	"radome/volume"
)

// wantJoined checks the items of a file that is joined from two, in both orders.
func wantJoined(t *testing.T, what string, a, b, want []volume.Item) {
	t.Helper()
	for _, files := range [][2][]volume.Item{{a, b}, {b, a}} {
		joined, e := volume.Join(wantFile(files[0]...), wantFile(files[1]...))
		wantBytes(t, "Join, "+what, joined, e, wantFile(want...), api.OK)
	}
}

// P12.4: items in the order of their times, each once.
func TestJoin(t *testing.T) {
	x, y, z := noteOf(1, "x"), noteOf(2, "y"), noteOf(3, "z")
	l := func(items ...volume.Item) []volume.Item { return items }
	wantJoined(t, "no items", nil, nil, nil)
	wantJoined(t, "one and none", l(x), nil, l(x))
	wantJoined(t, "in order", l(x), l(y, z), l(x, y, z))
	wantJoined(t, "in turns", l(x, z), l(y), l(x, y, z))
	wantJoined(t, "not in order", l(z, x), l(y), l(x, y, z))
	wantJoined(t, "not in order, and none", l(z, y, x), nil, l(x, y, z))
	wantJoined(t, "equal files", l(x, y), l(x, y), l(x, y))
	wantJoined(t, "an equal item", l(x, y), l(y, z), l(x, y, z))
	wantJoined(t, "an item twice in a file", l(x, y, x, x), l(z), l(x, y, z))
	wantJoined(t, "an item twice in both", l(x, x), l(x, x), l(x))
	wantJoined(t, "the time 0 and the last one", l(noteOf(maxTime, "")), l(noteOf(0, ""), noteOf(maxTime-1, "")), l(noteOf(0, ""), noteOf(maxTime-1, ""), noteOf(maxTime, "")))
}

// P12.4: items with equal times, by the bytes of their blocks.
func TestJoinEqualTimes(t *testing.T) {
	a, b, ab, e := noteOf(5, "a"), noteOf(5, "b"), noteOf(5, "ab"), noteOf(5, "")
	wantJoined(t, "texts", []volume.Item{b, ab}, []volume.Item{a, e}, []volume.Item{e, a, b, ab})
	f, g := fieldOf("f", 5, 1, 1, pt(1)), fieldOf("g", 5, 1, 1, pt(0))
	s := sweepOf("s", 5, 1, 1, quiet(0), quiet(0), quiet(0), quiet(0))
	wantJoined(t, "kinds", []volume.Item{s, b}, []volume.Item{f, g}, []volume.Item{b, g, s, f}) // with 5, 14, 15 and 16 as the first byte
	n := &noise{state: 6}
	var l []volume.Item
	for range 200 {
		x := n.item()
		x.Time, x.Sweep.Time = 5*min(x.Time, 1), 5*min(x.Sweep.Time, 1)
		l = append(l, x)
	}
	want, _ := wantJoinOf(wantFile(l...), []byte("RVF1"))
	for range 5 {
		l = shuffled(n, l)
		got, e := volume.Join(wantFile(l[:70]...), wantFile(l[70:]...))
		wantBytes(t, "Join of items with equal times", got, e, want, api.OK)
	}
}

// P12.4: the bytes of blocks decide, also where a number of more digits is greater.
func TestJoinByBytes(t *testing.T) {
	f := func(x int) volume.Item {
		x1 := fieldOf("f", 5, 1, 1, pt(0))
		x1.Field.Grid.X = x
		return x1
	}
	// The integers 0, 62, -63, 63, 64 and -64 have the bytes 1, 125, 126, 127, 129 2 and
	// 128 2; the longer ones make the body longer, which is said first.
	wantJoined(t, "numbers", []volume.Item{f(64), f(63), f(-63)}, []volume.Item{f(-64), f(0), f(62)}, []volume.Item{f(0), f(62), f(-63), f(63), f(-64), f(64)})
	long, longer := noteOf(5, string(slices.Repeat([]byte{'a'}, 123))), noteOf(5, string(slices.Repeat([]byte{'a'}, 124)))
	longest := noteOf(5, string(slices.Repeat([]byte{'a'}, 126)))
	wantJoined(t, "lengths", []volume.Item{longest, longer}, []volume.Item{long}, []volume.Item{long, longer, longest})
	l := []volume.Item{}
	for length := range maxNote + 1 {
		l = append(l, noteOf(7, string(slices.Repeat([]byte{'b'}, length))))
	}
	want, _ := wantJoinOf(wantFile(l...), []byte("RVF1"))
	got, e := volume.Join(wantFile(l...), []byte("RVF1"))
	wantBytes(t, "all lengths", got, e, want, api.OK)
}

// P12.4: the error of Read for a counts ahead of that for b.
func TestJoinErrors(t *testing.T) {
	whole := wantFile(few()...)
	torn := append(slices.Clone(whole), 0, 128)
	wrong := append(slices.Clone(whole), 0, 1, 1, 1, 1, 1, 1)
	other := append(slices.Clone(whole), fileOf(pieceOf(number(4)))[4:]...)
	none := []byte("RVF2")
	many := wantFile(notes(maxItems + 1)...)
	errors := []struct {
		b    []byte
		want api.Errno
	}{{whole, api.OK}, {torn, api.ErrTorn}, {wrong, api.ErrSum}, {other, api.ErrForm}, {none, api.ErrForm}, {many, api.ErrMany}, {make([]byte, maxFile+1), api.ErrLong}}
	for _, a := range errors {
		for _, b := range errors {
			want := a.want
			if want == api.OK {
				want = b.want
			}
			got, e := volume.Join(a.b, b.b)
			if e != want || (len(got) > 0) != (want == api.OK) {
				t.Errorf("Join of files with the errors %d and %d: %d bytes, error %d", a.want, b.want, len(got), e)
			}
		}
	}
}

// P12.4: as many items as a file may have, and one more; those that are equal count
// once.
func TestJoinMany(t *testing.T) {
	l := notes(maxItems + 1)
	for _, x := range []struct {
		what string
		a, b []volume.Item
		want []volume.Item
		e    api.Errno
	}{
		{"1000 items", l[:400], l[400:maxItems], l[:maxItems], api.OK},
		{"1001 items", l[:400], l[400:], nil, api.ErrMany},
		{"1000 items, each twice", l[:maxItems], l[:maxItems], l[:maxItems], api.OK},
		{"1000 items and another one", l[:maxItems], l[maxItems:], nil, api.ErrMany},
		{"1000 items and none", l[:maxItems], nil, l[:maxItems], api.OK},
		{"1000 items of 1200", l[:600], l[400:maxItems], l[:maxItems], api.OK},
		{"1000 items that are equal, and as many others", slices.Repeat(l[:1], maxItems), slices.Repeat(l[1:2], maxItems), l[:2], api.OK},
	} {
		var want []byte
		if x.e == api.OK {
			want = wantFile(x.want...)
		}
		got, e := volume.Join(wantFile(x.a...), wantFile(x.b...))
		wantBytes(t, "Join, "+x.what, got, e, want, x.e)
		got, e = volume.Join(wantFile(x.b...), wantFile(x.a...))
		wantBytes(t, "Join, turned, "+x.what, got, e, want, x.e)
	}
}

// wantFound checks the numbers that Find returns.
func wantFound(t *testing.T, b []byte, q volume.Query, want []int, wantE api.Errno) {
	t.Helper()
	got, e := volume.Find(b, q)
	wantSame(t, fmt.Sprintf("Find of %+v", q), fmt.Sprint(got, e), fmt.Sprint(want, wantE))
}

// P12.4: each kind, names and times.
func TestFind(t *testing.T) {
	f := func(name string, time int) volume.Item { return fieldOf(name, time, 1, 1, pt(0)) }
	s := func(name string, time int) volume.Item {
		return sweepOf(name, time, 1, 1, quiet(0), quiet(0), quiet(0), quiet(0))
	}
	b := wantFile(s("a", 10), f("a", 20), noteOf(10, "a"), f("ab", 20), s("ab", 30), noteOf(0, ""), f("a", maxTime), s("b", 20))
	all := []int{0, 1, 2, 3, 4, 5, 6, 7}
	for _, x := range []struct {
		kind int
		name string
		want []int
	}{
		{0, "", all}, {volume.Sweep, "", []int{0, 4, 7}}, {volume.Field, "", []int{1, 3, 6}}, {volume.Note, "", []int{2, 5}},
		{0, "a", []int{0, 1, 6}}, {volume.Sweep, "a", []int{0}}, {volume.Field, "a", []int{1, 6}}, {volume.Note, "a", nil},
		{0, "ab", []int{3, 4}}, {0, "b", []int{7}}, {0, "c", nil}, {0, "A", nil}, {0, " ", nil}, {0, "\x00", nil}, {0, "abc", nil}, {volume.Field, "b", nil},
	} {
		wantFound(t, b, volume.Query{Kind: x.kind, Name: x.name, To: maxTime}, x.want, api.OK)
		wantFound(t, b, volume.Query{Kind: x.kind, Name: x.name, From: -1 << 63, To: 1<<63 - 1}, x.want, api.OK)
	}
	for _, x := range []struct {
		from, to int
		want     []int
	}{
		{20, 20, []int{1, 3, 7}}, {10, 20, []int{0, 1, 2, 3, 7}}, {11, 19, nil}, {9, 10, []int{0, 2}}, {10, 10, []int{0, 2}}, {30, 31, []int{4}}, {21, 29, nil},
		{0, 0, []int{5}}, {-1, 0, []int{5}}, {-5, -1, nil}, {maxTime, maxTime, []int{6}}, {maxTime + 1, maxTime + 5, nil}, {31, maxTime - 1, nil}, {0, maxTime, all},
	} {
		wantFound(t, b, volume.Query{From: x.from, To: x.to}, x.want, api.OK)
	}
	wantFound(t, []byte("RVF1"), volume.Query{To: maxTime}, nil, api.OK)
	wantFound(t, b, volume.Query{Kind: volume.Sweep, Name: "ab", From: 30, To: 30}, []int{4}, api.OK)
	wantFound(t, b, volume.Query{Kind: volume.Sweep, Name: "ab", From: 31, To: 31}, nil, api.OK)
}

// P12.4: ErrArg, ErrRange and the error of Read, in this order.
func TestFindErrors(t *testing.T) {
	b := wantFile(few()...)
	torn := append(slices.Clone(b), 0)
	for _, kind := range []int{-1, 4, 5, 256, 257, -1 << 63, 1<<63 - 1} {
		wantFound(t, b, volume.Query{Kind: kind, To: 5}, nil, api.ErrArg)
		wantFound(t, b, volume.Query{Kind: kind, From: 6, To: 5}, nil, api.ErrArg)
		wantFound(t, torn, volume.Query{Kind: kind, From: 6, To: 5}, nil, api.ErrArg)
	}
	for kind := range 4 {
		wantFound(t, b, volume.Query{Kind: kind, From: 6, To: 5}, nil, api.ErrRange)
		wantFound(t, torn, volume.Query{Kind: kind, From: 1<<63 - 1, To: -1 << 63}, nil, api.ErrRange)
		wantFound(t, torn, volume.Query{Kind: kind, From: 5, To: 5}, nil, api.ErrTorn)
		wantFound(t, nil, volume.Query{Kind: kind}, nil, api.ErrForm)
	}
}
