package volume_test

import (
	"bytes"
	"fmt"
	"slices"
	"strings"
	"testing"

	"radome/api"
	"radome/volume"
)

// P12.5: items that differ have different blocks, of which none is the beginning of
// another one.
func TestBlocksDiffer(t *testing.T) {
	n := &noise{state: 5}
	l := append(few(), n.items(400)...)
	for at := range few() {
		for range 60 { // with a thing changed
			x := l[at]
			switch x.Kind {
			case volume.Sweep:
				s := &x.Sweep
				s.Rays = slices.Clone(s.Rays)
				s.Rays[n.upTo(3)] = slices.Repeat([]api.Echo{n.echo()}, s.Site.Gates)
				s.Tilt, s.Site.X = n.of(3, 4), n.of(-1, 0, 1)
			case volume.Field:
				x.Field.Vals = slices.Clone(x.Field.Vals)
				x.Field.Vals[n.upTo(len(x.Field.Vals)-1)] = n.span(3)
				x.Time = n.of(x.Time, 2, 300)
			default:
				x.Time, x.Text = n.of(4, 5, 127), strings.Repeat("a", n.upTo(3))
			}
			l = append(l, x)
		}
	}
	blocks := map[string]string{}
	for _, x := range l {
		b, said := string(pack(t, x)), fmt.Sprintf("%+v", x)
		if other, isThere := blocks[b]; isThere && other != said {
			t.Errorf("%s and %s have the same block", said, other)
		}
		blocks[b] = said
	}
	var sorted []string
	for b := range blocks {
		sorted = append(sorted, b)
	}
	slices.Sort(sorted)
	for i, b := range sorted[1:] {
		if strings.HasPrefix(b, sorted[i]) {
			t.Errorf("the block %q is the beginning of %q", sorted[i], b)
		}
	}
	if len(blocks) < 500 {
		t.Errorf("%d blocks", len(blocks))
	}
}

// P12.6, P12.8, P12.2: each byte of a file changed, in all ways.
func TestChanged(t *testing.T) {
	l := few()
	l = append(l[:3:3], l[1])
	b := wantFile(l...)
	var starts []int // of the blocks
	for i := range l {
		starts = append(starts, len(wantFile(l[:i]...)))
	}
	for at := range b {
		for c := range 256 {
			if byte(c) == b[at] {
				continue
			}
			changed := slices.Clone(b)
			changed[at] = byte(c)
			what := fmt.Sprint("the byte ", at, " is ", c)
			items, good, e := volume.Read(changed)
			if e == api.OK {
				t.Errorf("Read, %s: no error", what)
			}
			wantItems, wantGood, wantE := wantReadOf(changed)
			if good != wantGood || e != wantE || len(items) != len(wantItems) {
				t.Errorf("Read, %s: %d items, %d bytes, error %d; want %d, %d, %d", what, len(items), good, e, len(wantItems), wantGood, wantE)
			}
			inside, which := placeOf(starts, at, b)
			if inside {
				others := slices.Delete(slices.Clone(l), which, which+1)
				wantSaved(t, what, changed, others, c != 0)
			}
		}
	}
}

// placeOf returns in which block a byte is, and whether in its body or its sum.
func placeOf(starts []int, at int, b []byte) (inside bool, which int) {
	for i, start := range starts {
		if at >= start {
			which = i
		}
	}
	from := starts[which] + 2 // behind the byte 0, and the number of bytes
	if b[from-1] >= 128 {
		from++
	}
	return at >= from && at >= starts[0], which
}

// wantSaved checks that Salvage returns some items in order, and perhaps one more;
// or just these, and that one piece is lost.
func wantSaved(t *testing.T, what string, b []byte, others []volume.Item, isJust bool) {
	t.Helper()
	saved, lost, e := volume.Salvage(b)
	wantErr(t, "Salvage, "+what, e, api.OK)
	if isJust {
		wantSame(t, "Salvage, "+what, fmt.Sprint(saved, lost), fmt.Sprint(others, 1))
		return
	}
	left := others
	for _, x := range saved {
		if len(left) > 0 && fmt.Sprint(x) == fmt.Sprint(left[0]) {
			left = left[1:]
		}
	}
	if len(left) > 0 || len(saved) > len(others)+1 {
		t.Errorf("Salvage, %s: %v, want %v", what, saved, others)
	}
}

// P12.8: what a byte 0 makes of a block can be another item.
func TestSavedOneMore(t *testing.T) {
	inner := noteOf(5, "z")
	b := wantBlock(inner)
	body := slices.Concat(number(3, 0), text("abc"))
	odd := append(summed(append(number(len(body)), body...)), 7)
	odd = append(odd, b[1:]...) // a piece that is not whole, unless the 7 becomes 0
	file := fileOf(wantBlock(noteN())[1:], odd)
	wantSalvage(t, "as it is", file, []volume.Item{noteN()}, 1, api.OK)
	file[len(file)-len(b)] = 0
	wantSalvage(t, "with a byte 0", file, []volume.Item{noteN(), noteOf(0, "abc"), inner}, 0, api.OK)
}

// P12.7: a file cut off at each place, and continued.
func TestCut(t *testing.T) {
	n := &noise{state: 4}
	for _, l := range [][]volume.Item{nil, few(), append(few(), few()...), {noteOf(5, strings.Repeat("a", 200)), noteN()}, n.items(6), {loud("a", 2, 60), noteN()}} {
		b := write(t, l...)
		ends := []int{4}
		for i := range l {
			ends = append(ends, len(wantFile(l[:i+1]...)))
		}
		for cut := 4; cut <= len(b); cut++ {
			whole := 0
			for whole+1 < len(ends) && ends[whole+1] <= cut {
				whole++
			}
			want := api.ErrTorn
			if cut == ends[whole] {
				want = api.OK
			}
			items, good, e := volume.Read(b[:cut:cut])
			if len(items) != whole || good != ends[whole] || e != want {
				t.Errorf("Read of %v, cut off at %d: %d items, %d bytes, error %d; want %d, %d, %d", short(b), cut, len(items), good, e, whole, ends[whole], want)
			}
			back, e := volume.Write(items)
			wantBytes(t, "Write of what was read", back, e, b[:ends[whole]], api.OK)
			longer, e := volume.Append(b[:cut], noteOf(9, "more"))
			wantBytes(t, fmt.Sprint("Append behind ", cut), longer, e, wantFile(append(l[:whole:whole], noteOf(9, "more"))...), api.OK)
			saved, lost, e := volume.Salvage(b[:cut])
			if e != api.OK || len(saved) != whole || lost != map[bool]int{true: 1}[want != api.OK] {
				t.Errorf("Salvage, cut off at %d: %d items, %d lost, error %d", cut, len(saved), lost, e)
			}
		}
		for cut := range 4 {
			wantRead(t, fmt.Sprint("cut off at ", cut), b[:cut], nil, 0, api.ErrForm)
		}
	}
}

// P12.5, P12.8: what was written is read, and all of it is saved; and a file that is
// continued item by item is the file with all.
func TestBack(t *testing.T) {
	for seed := range 200 {
		n := &noise{state: uint64(seed)}
		l := n.items(n.upTo(8))
		b := write(t, l...)
		wantRead(t, "a file", b, l, len(b), api.OK)
		wantSalvage(t, "a file", b, l, 0, api.OK)
		again := []byte("RVF1")
		for _, x := range l {
			longer, e := volume.Append(again, x)
			wantErr(t, "Append", e, api.OK)
			again = longer
		}
		wantBytes(t, "a file that is continued", again, api.OK, b, api.OK)
		items, _, _ := volume.Read(b)
		wantBytes(t, "Write of what was read", write(t, items...), api.OK, b, api.OK)
	}
}

// P12.8: one byte of a body or a sum changed, in files of any items.
func TestSaved(t *testing.T) {
	for seed := range 300 {
		n := &noise{state: uint64(seed)}
		l := n.items(1 + n.upTo(5))
		which := n.upTo(len(l) - 1)
		from, block := len(wantFile(l[:which]...)), wantBlock(l[which])
		head := 1 + len(number(len(wantBody(l[which]))))
		b := wantFile(l...)
		at := from + head + n.upTo(len(block)-head-1)
		c := byte(n.of(0, 1, 128, 255, n.upTo(255)))
		if c == b[at] {
			continue
		}
		b[at] = c
		wantSaved(t, fmt.Sprint("the byte ", at, " is ", c), b, slices.Delete(slices.Clone(l), which, which+1), c != 0)
	}
}

// P12.9: the order of files does not matter, nor that in which several are joined; a
// file that is joined is the same if it is joined again.
func TestJoinedOrders(t *testing.T) {
	for seed := range 200 {
		n := &noise{state: uint64(seed)}
		l := n.items(6)
		var files [][]byte
		for range 3 {
			files = append(files, write(t, shuffled(n, l)[:n.upTo(6)]...))
		}
		a, b, c := files[0], files[1], files[2]
		all := join(t, join(t, a, b), c)
		for i, other := range [][]byte{
			join(t, c, join(t, a, b)), join(t, a, join(t, b, c)), join(t, join(t, c, b), a), join(t, join(t, b, a), c), join(t, b, join(t, c, a)), join(t, join(t, a, c), join(t, b, a)),
			join(t, all, all), join(t, all, a), join(t, []byte("RVF1"), all),
		} {
			if !bytes.Equal(other, all) {
				t.Errorf("the order %d: %v, want %v", i, other, all)
			}
		}
		items, _, e := volume.Read(all)
		wantErr(t, "Read", e, api.OK)
		for i := range len(items) - 1 {
			if !isAhead(items[i], items[i+1]) {
				t.Errorf("%+v ahead of %+v", items[i], items[i+1])
			}
		}
	}
}
