package mosaic_test

import (
	"fmt"
	"slices"
	"testing"

	"radome/api"
	"radome/mosaic"
)

// P11.8: the same messages, by offers and merges, in any order, twice or not,
// lead to the same node.
func TestOneMap(t *testing.T) {
	for seed := range 200 {
		x := &noise{state: uint64(1000 + seed)}
		s := x.network()
		l := x.messages(s, 12)
		horizon := x.of(0, 80, 100)
		times := []int{horizon + x.upTo(100), horizon + x.upTo(100)}
		plain := nodeOf(t, s)
		for _, m := range l {
			plain.Offer(m)
		}
		plain.Forget(horizon)
		want := answers(plain, times...)

		late := nodeOf(t, s) // has the horizon first
		late.Forget(horizon)
		for _, m := range shuffled(x, slices.Concat(l, l)) {
			late.Offer(m)
		}
		wantAnswers(t, "offers in another order, behind Forget", answers(late, times...), want)

		nodes := spread(t, x, s, l)
		nodes[x.upTo(len(nodes)-1)].Forget(horizon)
		for range 3 {
			for _, at := range shuffled(x, []int{1, 2, 3, 1, 2, 3}) {
				nodes[at].Merge(nodes[x.upTo(3)])
				nodes[0].Merge(nodes[at])
			}
		}
		wantAnswers(t, "offers to several nodes", answers(nodes[0], times...), want)
		for _, n := range nodes[1:] {
			n.Merge(nodes[0])
			wantAnswers(t, "another node", answers(n, times...), want)
			wantMerge(t, "again", nodes[0], n, 0, api.OK)
		}
		wantAnswers(t, "merged again", answers(nodes[0], times...), want)
	}
}

// spread returns four nodes, each message of a list at one of them at least.
func spread(t *testing.T, x *noise, s mosaic.Spec, l []mosaic.Message) []*mosaic.Node {
	t.Helper()
	nodes := []*mosaic.Node{nodeOf(t, s), nodeOf(t, s), nodeOf(t, s), nodeOf(t, s)}
	for _, m := range shuffled(x, slices.Concat(l, l[:len(l)/2])) {
		nodes[x.upTo(3)].Offer(m)
	}
	return nodes
}

// P11.8: merges in any order.
func TestMergeOrder(t *testing.T) {
	for seed := range 100 {
		x := &noise{state: uint64(2000 + seed)}
		s := x.network()
		nodes := spread(t, x, s, x.messages(s, 12))
		nodes[1].Forget(x.of(60, 90, 100))
		nodes[2].Forget(x.of(60, 90, 100))
		var want []string
		for _, order := range [][]int{{0, 1, 2, 3}, {3, 2, 1, 0}, {2, 0, 3, 1}, {1, 3, 0, 2, 0, 1}} {
			n := nodeOf(t, s)
			for _, at := range order {
				n.Merge(nodes[at])
			}
			got := answers(n, 100, 110)
			if want == nil {
				want = got
			}
			wantAnswers(t, fmt.Sprint("the order ", order), got, want)
		}
		// ((0 and 1) and (2 and 3)), the other way round
		a, b := nodes[3].Copy(), nodes[1].Copy()
		a.Merge(nodes[2])
		b.Merge(nodes[0])
		a.Merge(b)
		wantAnswers(t, "in pairs", answers(a, 100, 110), want)
	}
}

// P11.8: two nodes are equal when each has got what the other one says that it
// lacks.
func TestExchange(t *testing.T) {
	exchanged := 0
	for seed := range 200 {
		x := &noise{state: uint64(3000 + seed)}
		s := x.network()
		nodes := []*mosaic.Node{nodeOf(t, s), nodeOf(t, s)}
		known := map[mosaic.Key]bool{}
		for _, m := range x.messages(s, 12) {
			if known[m.Key] {
				continue // no key is contested
			}
			known[m.Key] = true
			for _, n := range nodes {
				if x.upTo(2) > 0 {
					n.Offer(m)
				}
			}
		}
		a, b := nodes[0], nodes[1]
		both := a.Copy()
		both.Merge(b)
		forA, forB := missing(t, b, a.Keys()...), missing(t, a, b.Keys()...)
		exchanged += len(forA) + len(forB)
		offer(t, a, forA...)
		offer(t, b, forB...)
		wantAnswers(t, "the first node", answers(a, 100, 110), answers(both, 100, 110))
		wantAnswers(t, "the second node", answers(b, 100, 110), answers(both, 100, 110))
		wantSame(t, "what is missing", missing(t, a, b.Keys()...), []mosaic.Message{})
	}
	if exchanged < 500 {
		t.Errorf("%d messages are exchanged", exchanged)
	}
}

// P11.9: what is shown is a value of a message that the node has, whose time, in
// truth, fits; no other message is lower at both ends; and there are no other gaps
// than where no message is used.
func TestShown(t *testing.T) {
	pixels, gaps := 0, 0
	for seed := range 200 {
		x := &noise{state: uint64(4000 + seed)}
		s := x.network()
		l := &ledger{spec: s, list: x.messages(s, 12)}
		n := nodeOf(t, s)
		for _, m := range l.list {
			n.Offer(m)
		}
		for range 5 {
			time := 60 + x.upTo(150)
			for p, pixel := range mapAt(t, n, time) {
				seers := l.seers(time, p)
				if shown(pixel) == "gap" {
					gaps++
					wantSame(t, "those who see a gap", len(seers), 0)
					continue
				}
				pixels++
				checkShown(t, l, seers, time, p, pixel)
			}
		}
	}
	if pixels < 1000 || gaps < 1000 {
		t.Errorf("%d pixels, %d gaps", pixels, gaps)
	}
}

// checkShown checks what is shown at a pixel that some messages see.
func checkShown(t *testing.T, l *ledger, seers []mosaic.Message, time, p int, pixel mosaic.Pixel) {
	t.Helper()
	at := slices.IndexFunc(seers, func(m mosaic.Message) bool { return m.Key == pixel.Key && m.Vals[p] == pixel.Value })
	if at < 0 {
		t.Fatalf("%+v is shown, but not seen", pixel)
	}
	band, _ := l.band(seers[at], p)
	r, _ := l.radar(pixel.Key.Name)
	for late := r.Offset.Lo; late <= r.Offset.Hi; late++ {
		if truth := pixel.Key.Time + late; truth > time || truth < time-l.spec.Age {
			t.Errorf("%+v is shown at %d, %d seconds late", pixel, time, late)
		}
	}
	for _, m := range seers {
		if b, _ := l.band(m, p); b.Lo < band.Lo && b.Hi < band.Hi {
			t.Errorf("%+v is shown, but %+v is lower", pixel, m)
		}
	}
}

// P11.10: a message that comes changes the map only where one of its radar and
// tilt is shown, before or behind; one that does not fit changes nothing.
func TestLate(t *testing.T) {
	changes, calm := 0, 0
	for seed := range 1000 {
		x := &noise{state: uint64(5000 + seed)}
		s := x.network()
		l := x.messages(s, 12)
		n := nodeOf(t, s)
		for _, m := range l[1:] {
			n.Offer(m)
		}
		m, time := l[0], l[0].Key.Time+x.upTo(30)
		before, clashes := mapAt(t, n, time), clashesAt(t, n, time)
		n.Offer(m)
		after := mapAt(t, n, time)
		isOf := func(k mosaic.Key) bool { return k.Name == m.Key.Name && k.Tilt == m.Key.Tilt }
		for p := range before {
			if before[p] == after[p] {
				continue
			}
			changes++
			if !isOf(before[p].Key) && !isOf(after[p].Key) {
				t.Errorf("%+v changes the pixel %d from %+v to %+v", m, p, before[p], after[p])
			}
		}
		if !(&ledger{spec: s, list: l[:1]}).fits(m, time) {
			calm++
			wantSame(t, "a map that the message does not fit", after, before)
			wantSame(t, "its clashes", clashesAt(t, n, time), clashes)
		}
	}
	if changes < 200 || calm < 50 {
		t.Errorf("%d changes, %d messages that do not fit", changes, calm)
	}
}

// P11.10: Forget changes no maps, and no clashes, from the new horizon, the age
// and the greatest offset on.
func TestForgetChangesNoMaps(t *testing.T) {
	for seed := range 100 {
		x := &noise{state: uint64(6000 + seed)}
		s := x.network()
		for i := range s.Radars {
			s.Radars[i].Offset.Hi = x.of(0, maxOffset-5, maxOffset)
			s.Radars[i].Offset.Lo = s.Radars[i].Offset.Hi - x.of(0, 1)
		}
		n := nodeOf(t, s)
		for _, m := range x.messages(s, 12) {
			n.Offer(m)
		}
		horizon := x.of(90, 100, 101, 110)
		l := n.Copy()
		if gone, e := l.Forget(horizon); gone == 0 || e != api.OK {
			continue
		}
		for _, more := range []int{0, 1, 5, 50} {
			time := horizon + s.Age + maxOffset + more
			wantSame(t, "the map", mapAt(t, l, time), mapAt(t, n, time))
			wantSame(t, "the clashes", clashesAt(t, l, time), clashesAt(t, n, time))
		}
	}
	// The last map that is changed: one second earlier.
	s := networkOf("a")
	s.Radars[0].Offset, s.Age = pt(maxOffset), 100
	n := nodeOf(t, s, message("a", 0, 99, pt(5)))
	wantMap(t, n, 100+100+maxOffset-1, "5 a 0 99")
	wantMap(t, n, 100+100+maxOffset, "gap")
}

// P11.11: nothing clashes if some rate lies within all values; wider values lead
// to no clashes that were not there.
func TestTrueValues(t *testing.T) {
	fewer, left := 0, 0
	for seed := range 300 {
		x := &noise{state: uint64(7000 + seed)}
		s := x.network()
		narrow, wide, common := nodeOf(t, s), nodeOf(t, s), nodeOf(t, s)
		known := map[mosaic.Key]bool{}
		for _, m := range x.messages(s, 12) {
			if known[m.Key] {
				continue // no key is contested
			}
			known[m.Key] = true
			offer(t, narrow, m)
			offer(t, wide, widened(m, func(v api.Span) api.Span { return span(max(0, v.Lo-x.upTo(2)), v.Hi+x.upTo(2)) }))
			offer(t, common, widened(m, func(v api.Span) api.Span { return span(min(v.Lo, 7), max(v.Hi, 7)) }))
		}
		for range 3 {
			time := 80 + x.upTo(80)
			before, after := clashesAt(t, narrow, time), clashesAt(t, wide, time)
			fewer += len(before) - len(after)
			left += len(after)
			for _, c := range after {
				if !slices.Contains(before, c) {
					t.Errorf("%+v is a new clash", c)
				}
			}
			wantSame(t, "clashes of true values", clashesAt(t, common, time), []mosaic.Clash{})
		}
	}
	if fewer < 100 || left < 50 {
		t.Errorf("%d clashes less, %d left", fewer, left)
	}
}

// widened returns a message with other values.
func widened(m mosaic.Message, change func(v api.Span) api.Span) mosaic.Message {
	m = copied(m)
	for p, v := range m.Vals {
		m.Vals[p] = change(v)
	}
	return m
}

// P11.12: the node of a snapshot has the same answers, and the same snapshot; with
// a byte changed it is none.
func TestRestart(t *testing.T) {
	for seed := range 100 {
		x := &noise{state: uint64(8000 + seed)}
		s := x.network()
		n := nodeOf(t, s)
		for _, m := range x.messages(s, x.of(1, 5, 12)) {
			n.Offer(m)
		}
		n.Forget(x.of(0, 80, 100, 200))
		b := n.Snapshot()
		wantAnswers(t, "a node that is restored", answers(restored(t, s, b), 100, 150), answers(n, 100, 150))
		for range 50 {
			bad := slices.Clone(b)
			bad[x.upTo(len(b)-1)] += byte(1 + x.upTo(254))
			wantRestored(t, "a byte changed", s, bad, api.ErrForm)
		}
	}
}
