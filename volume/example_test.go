package volume_test

import (
	"fmt"
	"slices"
	"testing"

	"radome/api"
	"radome/volume"
)

// P12.1 to P12.3: the examples, in the order of the chapter.
func TestExamples(t *testing.T) {
	for time, want := range map[int][]byte{0: {1}, 126: {127}, 127: {128, 2}, 16129: {128, 128, 2}} {
		b := pack(t, noteOf(time, ""))
		wantSame(t, fmt.Sprint("the number ", time), b[3:len(b)-6], want)
	}
	for x, want := range map[int][]byte{-1: {2}, 64: {129, 2}} {
		f := fieldOf("f", 0, 1, 1, pt(0))
		f.Field.Grid.X = x
		wantSame(t, fmt.Sprint("the integer ", x), pack(t, f)[6:][:len(want)], want)
	}
	block := []byte{0, 5, 4, 6, 2, 97, 183, 135, 165, 144, 1}
	wantSame(t, "Pack of N", pack(t, noteN()), block)
	wantRead(t, "letters", []byte("RVF1"), nil, 4, api.OK)
	wantRead(t, "letters and a byte 0", []byte("RVF1\x00"), nil, 4, api.ErrTorn)
	wantRead(t, "other letters", []byte("RVF2"), nil, 0, api.ErrForm)
	wantRead(t, "a block that is cut off", []byte("RVF1\x00\x05\x04"), nil, 4, api.ErrTorn)
	b := write(t, noteN())
	wantSame(t, "Write", b, append([]byte("RVF1"), block...))
	b[slices.Index(b, 97)] = 98
	wantRead(t, "a byte changed", b, nil, 4, api.ErrSum)
	wantSalvage(t, "N behind another piece", slices.Concat([]byte("x\x00y"), block), []volume.Item{noteN()}, 1, api.OK)
}

// wantAll checks what all functions return that get bytes, against the chapter.
func wantAll(t *testing.T, what string, b []byte) api.Errno {
	t.Helper()
	before := slices.Clone(b)
	l, good, e := wantReadOf(b)
	wantRead(t, what, b, l, good, e)
	saved, lost, salvageE := wantSalvageOf(b)
	wantSalvage(t, what, b, saved, lost, salvageE)
	for _, x := range []volume.Item{noteN(), noteOf(-1, "")} {
		want, wantE := wantAppendOf(b, x)
		got, e := volume.Append(b, x)
		wantBytes(t, "Append, "+what, got, e, want, wantE)
	}
	for _, q := range []volume.Query{{To: maxTime}, {Kind: 4}, {Kind: volume.Note, From: 5, To: 7}, {From: 1}} {
		want, wantE := wantFindOf(b, q)
		got, e := volume.Find(b, q)
		wantSame(t, fmt.Sprintf("Find of %+v, %s", q, what), fmt.Sprint(got, e), fmt.Sprint(want, wantE))
	}
	if !slices.Equal(b, before) {
		t.Errorf("%s: the bytes have changed", what)
	}
	return e
}

// P12.1 to P12.4: all functions against the definitions, with files of any items.
func TestAgainstDefinitions(t *testing.T) {
	for seed := range 400 {
		n := &noise{state: uint64(seed)}
		l, other := n.items(n.upTo(6)), n.items(n.upTo(4))
		for range n.upTo(3) {
			if len(l) > 0 {
				other = append(other, l[n.upTo(len(l)-1)])
			}
		}
		a, b := write(t, l...), write(t, other...)
		wantSame(t, "Write", a, wantFile(l...))
		for _, x := range l {
			wantSame(t, "Pack", pack(t, x), wantBlock(x))
		}
		wantErr(t, "Read", wantAll(t, fmt.Sprint("file ", seed), a), api.OK)
		wantAll(t, fmt.Sprint("file ", seed, ", cut off"), a[:n.upTo(len(a))])
		for _, files := range [][2][]byte{{a, b}, {b, a}, {a, a}} {
			want, wantE := wantJoinOf(files[0], files[1])
			got, e := volume.Join(files[0], files[1])
			wantBytes(t, "Join", got, e, want, wantE)
		}
		for range 10 {
			q := volume.Query{Kind: n.upTo(3), From: n.upTo(5), To: n.of(2, 5, maxTime)}
			if n.upTo(1) == 0 {
				q.Name = n.name()
			}
			want, wantE := wantFindOf(a, q)
			got, e := volume.Find(a, q)
			wantSame(t, fmt.Sprintf("Find of %+v", q), fmt.Sprint(got, e), fmt.Sprint(want, wantE))
		}
	}
}
