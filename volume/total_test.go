package volume_test

import (
	"fmt"
	"slices"
	"strings"
	"testing"

	"radome/api"
	"radome/volume"
)

// P0: every function ends, without a panic, for all arguments; R2: with an error,
// all other results are zero values (but for those of Read).
func TestAnyItems(t *testing.T) {
	changes := []func(x *volume.Item, m, n int){
		func(x *volume.Item, m, n int) { x.Kind, x.Time = m, n },
		func(x *volume.Item, m, n int) { x.Field.Grid.X, x.Field.Grid.Y = m, n },
		func(x *volume.Item, m, n int) { x.Field.Grid.Wide, x.Field.Grid.High = m, n },
		func(x *volume.Item, m, n int) { x.Field.Grid.Size, x.Time = m, n },
		func(x *volume.Item, m, n int) { x.Field.Vals = []api.Span{span(m, n)} },
		func(x *volume.Item, m, n int) { x.Sweep.Site.X, x.Sweep.Site.Y = m, n },
		func(x *volume.Item, m, n int) { x.Sweep.Site.Rose, x.Sweep.Site.Gates = m, n },
		func(x *volume.Item, m, n int) { x.Sweep.Site.Step, x.Sweep.Site.Width = m, n },
		func(x *volume.Item, m, n int) { x.Sweep.Site.Z, x.Sweep.Tilt = m, n },
		func(x *volume.Item, m, n int) { x.Sweep.Time, x.Kind = m, n },
		func(x *volume.Item, m, n int) {
			x.Sweep.Rays = [][]api.Echo{{{Kind: 1, Power: span(0, m)}}, {{Kind: n}}, nil, {{Kind: 3, Power: span(m, n)}}}
		},
		func(x *volume.Item, m, n int) {
			x.Name, x.Text = string([]byte{byte(m), byte(n)}), strings.Repeat("a", max(0, min(m, 300)))
		},
	}
	for i, change := range changes {
		for _, m := range extremes() {
			for _, n := range extremes() {
				for _, x := range append(few()[:3], volume.Item{}) {
					change(&x, m, n)
					wantChecked(t, fmt.Sprint("the change ", i, " with ", m, " and ", n), x, wantCheck(x))
				}
			}
		}
	}
}

// P0: bytes of all kinds.
func TestAnyBytes(t *testing.T) {
	errors := map[api.Errno]int{}
	for seed := range 3000 {
		n := &noise{state: uint64(seed)}
		b := []byte("RVF1")[:n.of(0, 2, 4, 4, 4, 4)]
		for range n.upTo(6) {
			b = append(b, 0)
			switch n.upTo(3) {
			case 0:
				for range n.upTo(12) {
					b = append(b, byte(n.of(0, 1, 2, 97, 128, 254, 255, n.upTo(255))))
				}
			case 1:
				b = append(b, pieceOf(number(n.upTo(4), n.upTo(200), n.upTo(5), n.upTo(200)))...)
			default:
				b = append(b, wantBlock(n.item())[1:]...)
				b = b[:len(b)-n.of(0, 0, 0, 0, 1, 3)]
			}
		}
		errors[wantAll(t, fmt.Sprint("seed ", seed), b)]++
	}
	for _, e := range []api.Errno{api.OK, api.ErrForm, api.ErrSum, api.ErrTorn} {
		if errors[e] < 100 {
			t.Errorf("the error %d arises %d times", e, errors[e])
		}
	}
}

// P0, R2: queries of all kinds.
func TestAnyQueries(t *testing.T) {
	b := write(t, few()...)
	for _, from := range extremes() {
		for _, to := range extremes() {
			for _, q := range []volume.Query{{Kind: from, From: from, To: to}, {Kind: to, From: to, To: from}, {From: from, To: to, Name: "s"}} {
				want, wantE := wantFindOf(b, q)
				wantFound(t, b, q, want, wantE)
			}
		}
	}
}

// R4: no argument is changed.
func TestArguments(t *testing.T) {
	l := few()
	volume.Write(l)
	for i, x := range l {
		volume.Check(x)
		volume.Pack(x)
		volume.Append([]byte("RVF1"), x)
		wantSame(t, "an item", x, few()[i])
	}
	a, b := wantFile(l...), wantFile(n5()...)
	room := append(make([]byte, 0, 2*len(a)), a...)
	room = append(room, 0, 200)
	spare := room[:cap(room)]
	copy(spare[len(room):], slices.Repeat([]byte{77}, len(spare)))
	before := slices.Clone(spare)
	volume.Append(room, noteN())
	volume.Append(room[:len(a)], noteN())
	volume.Join(room[:len(a)], b)
	volume.Read(room)
	volume.Salvage(room)
	volume.Find(room, volume.Query{})
	if !slices.Equal(spare, before) {
		t.Error("bytes have changed, perhaps those behind the end")
	}
}

// n5 returns five items.
func n5() []volume.Item { return (&noise{state: 5}).items(5) }

// R4: results are new memory, which the caller can change.
func TestNewMemory(t *testing.T) {
	l := few()
	b := wantFile(l...)
	for range 2 {
		read, _, _ := volume.Read(b)
		saved, _, _ := volume.Salvage(b)
		clear(b)
		wantSame(t, "what was read, behind a change of the bytes", read, few())
		wantSame(t, "what was saved, behind a change of the bytes", saved, few())
		spoil(read)
		wantSame(t, "what was saved, behind a change of what was read", saved, few())
		spoil(saved)
		b = wantFile(few()...)
		wantRead(t, "again", b, few(), len(b), api.OK)
		longer, _ := volume.Append(b, noteN())
		clear(longer)
		joined, _ := volume.Join(b, b)
		clear(joined)
		found, _ := volume.Find(b, volume.Query{To: maxTime})
		clear(found)
		written, _ := volume.Write(l)
		clear(written)
		packed, _ := volume.Pack(l[1])
		clear(packed)
		wantRead(t, "once more", b, few(), len(b), api.OK)
	}
}

// spoil changes all that items have.
func spoil(l []volume.Item) {
	for _, x := range l {
		clear(x.Field.Vals)
		for i, ray := range x.Sweep.Rays {
			clear(ray)
			x.Sweep.Rays[i] = append(ray, api.Echo{Kind: 77})
		}
		clear(x.Sweep.Rays)
	}
	clear(l)
}

// R4: rays share no memory, also not behind their ends.
func TestRaysApart(t *testing.T) {
	b := wantFile(few()[3])
	l, _, _ := volume.Read(b)
	rays := l[0].Sweep.Rays
	for i := range rays {
		rays[i] = append(rays[i], api.Echo{Kind: 77})
		rays[i][0].Kind = 99
	}
	for i, ray := range rays {
		want := few()[3].Sweep.Rays[i]
		want[0].Kind = 99
		wantSame(t, fmt.Sprint("the ray ", i), ray, append(want, api.Echo{Kind: 77}))
	}
}
