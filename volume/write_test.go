package volume_test

import (
	"bytes"
	"fmt"
	"slices"
	"strings"
	"testing"

	"radome/api"
	"radome/volume"
)

// P12.1: a block of each kind, worked out by hand.
func TestPackByHand(t *testing.T) {
	body := func(x volume.Item) []byte {
		b := pack(t, x)
		return b[2 : len(b)-5]
	}
	wantSame(t, "a note", body(noteOf(200, "ab ")), []byte{4, 128 + 73, 2, 4, 'a', 'b', ' '})
	wantSame(t, "an empty note", body(noteOf(0, "")), []byte{4, 1, 1})
	f := fieldOf("fi", 127, 3, 2, pt(0), span(1, 130), span(1, 130), pt(0), pt(0), pt(0))
	f.Field.Grid.X, f.Field.Grid.Y, f.Field.Grid.Size = -64, 63, 126
	wantSame(t, "a field", body(f), []byte{3, 3, 'f', 'i', 128, 2, 128, 2, 127, 127, 4, 3, 2, 3, 128 + 2, 2, 2, 1, 1, 3})
	e := api.Echo{Kind: api.Mixed, Power: span(1, 3), Ratio: span(4, 4), Match: span(0, 1000), Spread: 9}
	c := e
	c.Kind, c.Steps, c.Turn = api.Clear, [2]api.Span{span(-1, 1), span(0, 2)}, pt(-3)
	s := sweepOf("s", 6, 1, 2, quiet(0), quiet(0), quiet(4), e, e, c, c, c)
	s.Sweep.Site.X, s.Sweep.Site.Y, s.Sweep.Site.Width, s.Sweep.Site.Step, s.Sweep.Tilt = 2, -2, 3, 127, 8
	echo := []byte{3, 3, 9, 1, 1, 128 + 111, 8, 10}
	wantSame(t, "a sweep", body(s), slices.Concat([]byte{2, 2, 's', 5, 4, 101, 2, 3, 128, 2, 4, 9, 7}, []byte{3, 2, 5, 1, 3}, echo, []byte{2, 4}, echo, []byte{2, 3, 1, 3, 6, 1, 3}))
}

// P12.1, P12.5: numbers of all lengths, around each power of 127.
func TestPackNumbers(t *testing.T) {
	powers := map[int]int{1: 1, 127: 2, 16129: 3, 2048383: 4, 260144641: 5, maxTime: 5}
	for power, length := range powers {
		for _, n := range []int{power - 1, power, power + 1, 2*power - 1, 126 * power, 127*power - 1} {
			if n > maxTime {
				continue
			}
			b := pack(t, noteOf(n, "x"))
			wantSame(t, fmt.Sprint("the time ", n), b, wantBlock(noteOf(n, "x")))
			if got := len(b) - 1 - 1 - 1 - 2 - 5; n >= power && n < 127*power && got != length {
				t.Errorf("the time %d has %d bytes, want %d", n, got, length)
			}
			wantRead(t, fmt.Sprint("the time ", n), write(t, noteOf(n, "x")), []volume.Item{noteOf(n, "x")}, 4+len(b), api.OK)
		}
	}
	for power := range map[int]int{0: 0, 127: 0, 16129: 0, 2048383: 0} {
		for _, n := range []int{power/2 - 1, power / 2, power/2 + 1} {
			for _, x := range []int{n, -n, -n - 1} {
				if x < -1048576 || x > 1048576 {
					continue
				}
				f := fieldOf("f", 0, 1, 1, pt(0))
				f.Field.Grid.X, f.Field.Grid.Y = x, -x
				wantSame(t, fmt.Sprint("the place ", x), pack(t, f), wantBlock(f))
				wantRead(t, fmt.Sprint("the place ", x), write(t, f), []volume.Item{f}, len(wantFile(f)), api.OK)
			}
		}
	}
}

// P12.1, P12.5: integers around 0 and -64.
func TestPackIntegers(t *testing.T) {
	for x, want := range map[int][]byte{
		-65: {128 + 2, 2}, -64: {128, 2}, -63: {126}, -62: {124}, -2: {4}, -1: {2}, 0: {1}, 1: {3}, 2: {5}, 62: {125}, 63: {127}, 64: {128 + 1, 2}, 65: {128 + 3, 2},
	} {
		f := fieldOf("f", 0, 1, 1, pt(0))
		f.Field.Grid.X = x
		wantSame(t, fmt.Sprint("the integer ", x), pack(t, f)[6:][:len(want)], want)
		wantRead(t, fmt.Sprint("the integer ", x), write(t, f), []volume.Item{f}, len(wantFile(f)), api.OK)
	}
}

// P12.1, P12.5: lists of things that are equal, or differ, in all ways in which six
// things can, and seven.
func TestPackLists(t *testing.T) {
	values := []api.Span{pt(0), pt(1), span(0, 1)}
	for at := range 3 * 3 * 3 * 3 * 3 * 3 {
		f := fieldOf("f", 0, 3, 2)
		for n := at; len(f.Field.Vals) < 6; n /= 3 {
			f.Field.Vals = append(f.Field.Vals, values[n%3])
		}
		wantSame(t, fmt.Sprint("the list ", f.Field.Vals), pack(t, f), wantBlock(f))
		wantRead(t, fmt.Sprint("the list ", f.Field.Vals), write(t, f), []volume.Item{f}, len(wantFile(f)), api.OK)
	}
	for _, echoes := range [][]api.Echo{{quiet(0), quiet(1), mixed(1)}, {quiet(0), mixed(1), clearEcho(1)}, {clearEcho(1), clearEcho(2), mixed(2)}} {
		for at := range 3 * 3 * 3 * 3 * 3 * 3 * 3 * 3 {
			var l []api.Echo
			for n := at; len(l) < 8; n /= 3 {
				l = append(l, echoes[n%3])
			}
			s := sweepOf("s", 0, 1, 2, l...)
			b := pack(t, s)
			if !bytes.Equal(b, wantBlock(s)) {
				t.Fatalf("Pack of %v: %v, want %v", l, b, wantBlock(s))
			}
			if items, _, e := volume.Read(append([]byte("RVF1"), b...)); e != api.OK || len(items) != 1 || !slices.EqualFunc(items[0].Sweep.Rays, s.Sweep.Rays, slices.Equal[[]api.Echo]) {
				t.Fatalf("Read of the block of %v: %+v, error %d", l, items, e)
			}
		}
	}
}

// P12.1, P12.5: lists whose numbers have two digits and more.
func TestPackLongLists(t *testing.T) {
	for _, equal := range []int{0, 1, 125, 126, 127, 128, 4094, 4095, 4096} {
		for _, v := range []api.Span{pt(0), pt(3)} {
			f := fieldOf("f", 0, 64, 64, slices.Repeat([]api.Span{pt(5)}, 4096)...)
			copy(f.Field.Vals, slices.Repeat([]api.Span{v}, equal))
			wantBytes(t, fmt.Sprint(equal, " values ", v), pack(t, f), api.OK, wantBlock(f), api.OK)
			wantRead(t, fmt.Sprint(equal, " values ", v), write(t, f), []volume.Item{f}, len(wantFile(f)), api.OK)
		}
	}
}

// P12.1, P12.5: an echo in which a field differs from that of the one before it is
// another one.
func TestPackEchoFields(t *testing.T) {
	changes := []func(x *api.Echo){
		func(x *api.Echo) {}, func(x *api.Echo) { x.Power.Hi++ }, func(x *api.Echo) { x.Power.Lo-- }, func(x *api.Echo) { x.Ratio.Lo++ }, func(x *api.Echo) { x.Ratio.Hi-- },
		func(x *api.Echo) { x.Match.Lo++ }, func(x *api.Echo) { x.Match.Hi-- }, func(x *api.Echo) { x.Spread-- }, func(x *api.Echo) { x.Steps[0].Lo++ }, func(x *api.Echo) { x.Steps[0].Hi-- },
		func(x *api.Echo) { x.Steps[1].Lo++ }, func(x *api.Echo) { x.Steps[1].Hi-- }, func(x *api.Echo) { x.Turn.Lo--; x.Turn.Hi-- }, func(x *api.Echo) { x.Turn.Hi-- },
		func(x *api.Echo) { x.Kind, x.Steps, x.Turn = api.Mixed, [2]api.Span{}, api.Span{} },
	}
	for i, change := range changes {
		l := []api.Echo{clearEcho(100), clearEcho(100), clearEcho(100), clearEcho(100)}
		change(&l[2])
		s := sweepOf("s", 0, 1, 1, l...)
		wantChecked(t, fmt.Sprint("the change ", i), s, api.OK)
		wantRead(t, fmt.Sprint("the change ", i), write(t, s), []volume.Item{s}, len(wantFile(s)), api.OK)
	}
}

// P12.1, P12.5: sweeps and fields of all shapes.
func TestPackShapes(t *testing.T) {
	for _, rose := range []int{1, 2, 31, 32, 89, 90} {
		for _, gates := range []int{1, 2, 3, 126, 127, 199, 200} {
			l := slices.Repeat([]api.Echo{quiet(0)}, 4*rose*gates)
			l[gates-1], l[len(l)-1] = quiet(7), mixed(5)
			s := sweepOf("s", 0, rose, gates, l...)
			wantBytes(t, fmt.Sprint(rose, " and ", gates), pack(t, s), api.OK, wantBlock(s), api.OK)
			items, good, e := volume.Read(write(t, s))
			if e != api.OK || good != len(wantFile(s)) || len(items) != 1 || !slices.EqualFunc(items[0].Sweep.Rays, s.Sweep.Rays, slices.Equal[[]api.Echo]) {
				t.Errorf("Read of a sweep with %d times 4 rays of %d gates: %d items, error %d", rose, gates, len(items), e)
			}
		}
	}
	for _, wide := range []int{1, 2, 63, 64} {
		for _, high := range []int{1, 2, 63, 64} {
			f := fieldOf("f", 0, wide, high)
			for p := range wide * high {
				f.Field.Vals = append(f.Field.Vals, span(p/3, p))
			}
			wantBytes(t, fmt.Sprint(wide, " by ", high), pack(t, f), api.OK, wantBlock(f), api.OK)
			wantRead(t, fmt.Sprint(wide, " by ", high), write(t, f), []volume.Item{f}, len(wantFile(f)), api.OK)
		}
	}
}

// P12.1, P12.5: bodies with a number of bytes that has one digit, two, and more.
func TestPackSizes(t *testing.T) {
	for length := range maxNote + 1 {
		x := noteOf(0, strings.Repeat("x", length))
		b := pack(t, x)
		wantSame(t, fmt.Sprint("a text of ", length, " bytes"), b, wantBlock(x))
		wantRead(t, fmt.Sprint("a text of ", length, " bytes"), write(t, x), []volume.Item{x}, 4+len(b), api.OK)
	}
	seen := map[int]bool{}
	for _, gates := range []int{4, 5, 92, 93, 94, 95, 200} {
		x := loud("loud", 1, gates)
		wantBytes(t, fmt.Sprint(gates, " loud gates"), pack(t, x), api.OK, wantBlock(x), api.OK)
		wantRead(t, fmt.Sprint(gates, " loud gates"), write(t, x), []volume.Item{x}, len(wantFile(x)), api.OK)
		seen[len(number(len(wantBody(x))))] = true
	}
	x := loud("loud", 90, 200)
	wantBytes(t, "the longest sweep", pack(t, x), api.OK, wantBlock(x), api.OK)
	seen[len(number(len(wantBody(x))))] = true
	wantSame(t, "lengths of numbers", seen, map[int]bool{2: true, 3: true, 4: true})
}

// P12.1, P12.5: sums whose highest digits are 0 have 5 digits, too.
func TestPackSums(t *testing.T) {
	zeros := map[int]int{}
	for time := range 300000 {
		b := pack(t, noteOf(time, "ab"))
		last := b[len(b)-5:]
		count := 0
		if last[4] == 1 {
			for count = 1; count < 5 && last[4-count] == 128; count++ {
			}
		}
		zeros[count]++
		if count >= 2 || zeros[count] < 5 {
			x := noteOf(time, "ab")
			wantSame(t, fmt.Sprint("the time ", time), b, wantBlock(x))
			wantRead(t, fmt.Sprint("the time ", time), write(t, x), []volume.Item{x}, 4+len(b), api.OK)
		}
	}
	if zeros[0] == 0 || zeros[1] == 0 || zeros[2] == 0 || zeros[3] == 0 {
		t.Errorf("sums by how many of their highest digits are 0: %v", zeros)
	}
}

// P12.1: files without items, with one, as many as there may be, and one more.
func TestWriteMany(t *testing.T) {
	for _, count := range []int{0, 1, 2, 999, maxItems} {
		l := notes(count)
		b, e := volume.Write(l)
		wantBytes(t, fmt.Sprint(count, " items"), b, e, wantFile(l...), api.OK)
		wantRead(t, fmt.Sprint(count, " items"), b, l, len(b), api.OK)
	}
	b, e := volume.Write(nil)
	wantBytes(t, "nil", b, e, []byte("RVF1"), api.OK)
	for _, count := range []int{maxItems + 1, 3000} {
		b, e := volume.Write(notes(count))
		wantBytes(t, fmt.Sprint(count, " items"), b, e, nil, api.ErrMany)
		b, e = volume.Write(make([]volume.Item, count))
		wantBytes(t, fmt.Sprint(count, " items that are none"), b, e, nil, api.ErrMany)
	}
}

// P12.1, R1: the first item with an error decides; its error comes ahead of ErrLong.
func TestWriteErrors(t *testing.T) {
	l := few()
	l[2].Time, l[4].Name = -1, ""
	b, e := volume.Write(l)
	wantBytes(t, "two errors", b, e, nil, api.ErrRange)
	l[2].Time = 5
	b, e = volume.Write(l)
	wantBytes(t, "the last one", b, e, nil, api.ErrName)
}

// P12.1 to P12.4: a file as long as it may be, and one a byte longer.
func TestLongFiles(t *testing.T) {
	most, more := full(t, maxFile), full(t, maxFile+1)
	whole, e := volume.Write(most)
	if want := wantFile(most...); e != api.OK || len(whole) != maxFile || !bytes.Equal(whole, want) {
		t.Fatalf("Write: %d bytes, error %d", len(whole), e)
	}
	longer := wantFile(more...)
	wantSame(t, "the file that is a byte longer", len(longer), maxFile+1)
	b, e := volume.Write(more)
	wantBytes(t, "a byte longer", b, e, nil, api.ErrLong)
	b, e = volume.Write(append(slices.Clone(more), noteOf(0, "\n")))
	wantBytes(t, "a byte longer, and an error", b, e, nil, api.ErrForm)
	b, e = volume.Write(append(slices.Clone(more), more[:5]...))
	wantBytes(t, "much longer", b, e, nil, api.ErrLong)

	l, good, e := volume.Read(whole)
	if e != api.OK || good != maxFile || len(l) != len(most) {
		t.Errorf("Read: %d items, %d bytes, error %d", len(l), good, e)
	}
	back, e := volume.Write(l)
	if e != api.OK || !bytes.Equal(back, whole) {
		t.Errorf("Write of what was read: %d bytes, error %d", len(back), e)
	}
	wantRead(t, "a byte longer", longer, nil, 0, api.ErrLong)
	wantRead(t, "a byte longer, and no file", longer[1:], nil, 0, api.ErrForm)
	wantRead(t, "other bytes", make([]byte, maxFile+1), nil, 0, api.ErrLong)
	wantSalvage(t, "a byte longer", longer, nil, 0, api.ErrLong)
	saved, lost, e := volume.Salvage(whole)
	if e != api.OK || lost != 0 || len(saved) != len(most) {
		t.Errorf("Salvage: %d items, %d lost, error %d", len(saved), lost, e)
	}
	b, e = volume.Join(longer, nil)
	wantBytes(t, "Join", b, e, nil, api.ErrLong)
	b, e = volume.Join([]byte("RVF1"), longer)
	wantBytes(t, "Join", b, e, nil, api.ErrLong)
	found, e := volume.Find(longer, volume.Query{})
	wantSame(t, "Find", fmt.Sprint(found, e), fmt.Sprint([]int{}, api.ErrLong))
	b, e = volume.Append(longer, volume.Item{})
	wantBytes(t, "Append", b, e, nil, api.ErrLong)
	appendLong(t, most[:len(most)-1], most[len(most)-1])
	joinLong(t, most, more)
}

// appendLong appends an item with which a file has as many bytes as it may have, and
// a longer one.
func appendLong(t *testing.T, l []volume.Item, last volume.Item) {
	t.Helper()
	b := wantFile(l...)
	whole, e := volume.Append(b, last)
	if e != api.OK || len(whole) != maxFile {
		t.Errorf("Append: %d bytes, error %d", len(whole), e)
	}
	last.Text += "x"
	got, e := volume.Append(b, last)
	wantBytes(t, "Append of a byte more", got, e, nil, api.ErrLong)
	got, e = volume.Append(whole, noteN())
	wantBytes(t, "Append to the longest file", got, e, nil, api.ErrLong)
	got, e = volume.Append(whole, noteOf(-1, ""))
	wantBytes(t, "Append of no item to the longest file", got, e, nil, api.ErrRange)
	got, e = volume.Append(append(b[:len(b):len(b)], 0, 128), last)
	wantBytes(t, "Append of a byte more to a torn file", got, e, nil, api.ErrLong)
}

// joinLong joins files with which the joined one has as many bytes as it may have,
// and with which it would have one more.
func joinLong(t *testing.T, most, more []volume.Item) {
	t.Helper()
	a, b := wantFile(most[:len(most)/2]...), wantFile(most[len(most)/2:]...)
	joined, e := volume.Join(b, a)
	if e != api.OK || len(joined) != maxFile {
		t.Errorf("Join of %d and %d bytes: %d bytes, error %d", len(a), len(b), len(joined), e)
	}
	again, e := volume.Join(joined, b)
	if e != api.OK || !bytes.Equal(again, joined) {
		t.Errorf("Join with items that are there: %d bytes, error %d", len(again), e)
	}
	joined, e = volume.Join(wantFile(more[:3]...), wantFile(more[3:]...))
	wantBytes(t, "Join of a byte more", joined, e, nil, api.ErrLong)
}
