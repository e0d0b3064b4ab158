package mosaic_test

import (
	"fmt"
	"strings"
	"testing"

	"radome/api"
	"radome/mosaic"
)

// R3: a nil node, and one that no function made, have no answers.
func TestNoNode(t *testing.T) {
	made := mosaic.Node{}
	for _, n := range []*mosaic.Node{nil, {}, new(mosaic.Node), &made} {
		for _, time := range []int{-1, 0, 100, maxTime + 1} {
			l, e := n.Map(time)
			wantErr(t, "Map", e, api.ErrNil)
			f, e := n.Field(time)
			wantErr(t, "Field", e, api.ErrNil)
			c, e := n.Clashes(time)
			wantErr(t, "Clashes", e, api.ErrNil)
			wantSame(t, "results", fmt.Sprint(l, f, c), fmt.Sprint([]int{}, api.Field{}, []int{}))
			wantForget(t, n, time, 0, api.ErrNil)
		}
		for _, m := range []mosaic.Message{{}, messageA(100, 5), even("c", -1, -1)} {
			wantOffer(t, "no node", n, m, false, api.ErrNil)
		}
		for _, count := range []int{0, 1, maxMessages + 1} {
			l, e := n.Missing(make([]mosaic.Key, count))
			wantErr(t, "Missing", e, api.ErrNil)
			wantSame(t, "Missing", l, []mosaic.Message{})
		}
		if n.Copy() != nil || n.Snapshot() != nil || n.Horizon() != 0 || len(n.Keys()) != 0 || len(n.Contested()) != 0 {
			t.Error("what is no node has answers")
		}
	}
}

// A struct that is copied from a node is the same node: neither of both can get
// out of step with the other one.
func TestCopiedStruct(t *testing.T) {
	n := nodeOf(t, networkS(), messageA(100, 5))
	same := *n
	offer(t, &same, messageB(100, 7))
	wantOffer(t, "the other one has it", n, messageB(100, 7), false, api.OK)
	wantForget(t, n, 50, 0, api.OK)
	wantAnswers(t, "both", answers(&same, 110), answers(n, 110))
}

// R4: a message, keys, bytes or a network that the caller changes afterwards
// change no node; no argument is changed.
func TestArguments(t *testing.T) {
	s, m := networkS(), messageA(100, 5)
	n := nodeOf(t, s, m)
	before := answers(n, 100, 110)
	wantSame(t, "the message", m, messageA(100, 5))
	clear(m.Vals)
	wantAnswers(t, "behind a change of the message", answers(n, 100, 110), before)
	s.Radars[0].Site.X, s.Radars[1].Offset = 7, pt(0)
	wantAnswers(t, "behind a change of the network", answers(n, 100, 110), before)
	wantMerge(t, "an equal network", n, nodeOf(t, networkS()), 0, api.OK)
	wantMerge(t, "the network that was changed", n, nodeOf(t, s), 0, api.ErrShape)

	s = networkS()
	b := n.Snapshot()
	o := restored(t, s, b)
	wantSame(t, "the bytes", b, n.Snapshot())
	clear(b)
	s.Radars[0].Site.X = 7
	wantAnswers(t, "behind a change of the bytes", answers(o, 100, 110), before)
	wantMerge(t, "an equal network", o, n, 0, api.OK)

	keys := []mosaic.Key{key("b", 0, 100), key("a", 0, 200), key("a", 0, 100)}
	missing(t, n, keys...)
	wantSame(t, "the keys", keys, []mosaic.Key{key("b", 0, 100), key("a", 0, 200), key("a", 0, 100)})
}

// R4: results are new memory, which the caller can change.
func TestNewMemory(t *testing.T) {
	n := nodeOf(t, networkS(), messageA(100, 5), messageB(100, 7), messageA(90, 1), messageA(90, 2))
	o := nodeOf(t, networkS())
	o.Merge(n)
	before := answers(n, 110)
	for range 2 {
		for _, x := range []*mosaic.Node{n, n.Copy(), o} {
			clear(x.Keys())
			clear(x.Contested())
			clear(x.Snapshot())
			clear(mapAt(t, x, 110))
			clear(clashesAt(t, x, 110))
			f, _ := x.Field(110)
			clear(f.Vals)
			l := missing(t, x)
			for _, m := range l {
				clear(m.Vals)
			}
			clear(l)
			wantAnswers(t, "behind changes of results", answers(x, 110), before)
			wantAnswers(t, "the first node", answers(n, 110), before)
		}
	}
	a, b := missing(t, n), missing(t, n)
	clear(a[0].Vals)
	wantSame(t, "another result", b, missing(t, n))
}

// P0: every function ends, without a panic, for all arguments; R2: with an error,
// all other results are zero values, and nothing has changed.
func TestAnyArguments(t *testing.T) {
	l := []mosaic.Message{messageA(100, 5), messageA(100, 6), messageB(100, 7)}
	n := nodeOf(t, networkS(), l...)
	wantForget(t, n, 50, 0, api.OK)
	before := answers(n, 110)
	for _, a := range extremes() {
		for _, b := range extremes() {
			for _, m := range []mosaic.Message{message("a", a, b, even("a", 0, 5).Vals...), message("b", 0, a, span(a, b)), message("a", 0, 100, append(even("a", 0, 5).Vals[1:], span(a, b))...)} {
				o := n.Copy()
				isNew, e := o.Offer(m)
				want, wantE := (&ledger{networkS(), 50, l}).Offer(m)
				wantSame(t, fmt.Sprintf("Offer of %+v", m), fmt.Sprint(isNew, e), fmt.Sprint(want, wantE))
				if e != api.OK {
					wantAnswers(t, "behind an error", answers(o, 110), before)
				}
			}
			o := n.Copy()
			o.Forget(a)
			o.Forget(b)
			o.Missing([]mosaic.Key{key("a", a, b), key(strings.Repeat("x", 1000), b, a)})
			o.Map(a)
			o.Clashes(b)
		}
	}
	wantAnswers(t, "the node", answers(n, 110), before)
}

// P0 and R2 of networks with any numbers.
func TestAnyNetworks(t *testing.T) {
	changes := []func(s *mosaic.Spec, m, n int){
		func(s *mosaic.Spec, m, n int) { s.Grid.X, s.Grid.Y = m, n },
		func(s *mosaic.Spec, m, n int) { s.Grid.Wide, s.Grid.High = m, n },
		func(s *mosaic.Spec, m, n int) { s.Grid.Size, s.Age = m, n },
		func(s *mosaic.Spec, m, n int) { s.Earth = span(m, n) },
		func(s *mosaic.Spec, m, n int) { s.Radars[1].Offset = span(m, n) },
		func(s *mosaic.Spec, m, n int) { s.Radars[0].Site.X, s.Radars[0].Site.Z = m, n },
		func(s *mosaic.Spec, m, n int) { s.Radars[0].Site.Rose, s.Radars[1].Site.Gates = m, n },
		func(s *mosaic.Spec, m, n int) { s.Radars[0].Site.Step, s.Radars[1].Site.Width = m, n },
	}
	for i, change := range changes {
		for _, m := range extremes() {
			for _, n := range extremes() {
				s := networkS()
				change(&s, m, n)
				e := mosaic.Check(s)
				o, newE := mosaic.New(s)
				wantErr(t, fmt.Sprint("New, the change ", i, " with ", m, " and ", n), newE, e)
				r, restoreE := mosaic.Restore(s, sealed(piecesOf(0)))
				wantErr(t, fmt.Sprint("Restore, the change ", i, " with ", m, " and ", n), restoreE, e)
				if (o != nil) != (e == api.OK) || (r != nil) != (e == api.OK) {
					t.Errorf("the change %d with %d and %d: error %d, %v, %v", i, m, n, e, o, r)
				}
				o.Offer(messageA(100, 5))
				o.Map(100)
				o.Clashes(100)
			}
		}
	}
}

// P0: bytes of all kinds.
func TestAnyBytes(t *testing.T) {
	x := &noise{state: 9}
	for range 3000 {
		b := []byte("RDM1")[:x.of(0, 2, 4, 4)]
		for range x.upTo(60) {
			b = append(b, byte(x.of(0, 1, 2, 97, 128, 255, x.upTo(255))))
		}
		wantRestored(t, fmt.Sprint("bytes ", b), networkS(), b, api.ErrForm)
		for _, s := range []mosaic.Spec{networkS(), networkOf("a")} {
			b := checked(b)
			if n, e := mosaic.Restore(s, b); e != api.OK && e != api.ErrForm || (n != nil) != (e == api.OK) {
				t.Errorf("Restore of %v: %v, error %d", b, n, e)
			}
		}
	}
}
