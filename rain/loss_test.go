package rain_test

import (
	"math"
	"slices"
	"testing"

	"radome/api"
	"radome/rain"
)

// halving takes half of any power away.
func halving() []rain.Point { return points(0, 32768, 1, 32768) }

// P5.3: the examples.
func TestLossExamples(t *testing.T) {
	if l := mustPass(t, tableL(), []int{1000, 1000, 500}); !slices.Equal(l, spans(1000, 1000, 500, 500, 125, 125)) {
		t.Errorf("Pass of 1000, 1000, 500: %v", l)
	}
	if l := mustRestore(t, tableL(), spans(1000, 1000, 500, 500, 125, 125)); !slices.Equal(l, spans(1000, 1000, 1000, 1000, 500, 500)) {
		t.Errorf("Restore from 1000, 500, 125: %v", l)
	}
	if l := mustRestore(t, tableL(), spans(900, 1100, 500, 500)); !slices.Equal(l, spans(900, 1100, 909, 1000)) {
		t.Errorf("Restore from 900 to 1100, and 500: %v", l)
	}
}

// P5.3: no gates, one gate, and nothing that is lost.
func TestLossless(t *testing.T) {
	none := points(0, 0, 1, 0)
	powers := []int{0, 1, 77, maxPower, 3, maxPower}
	measured := spans(0, 0, 1, 1, 77, 77, maxPower, maxPower, 3, 3, maxPower, maxPower)
	if l := mustPass(t, none, powers); !slices.Equal(l, measured) {
		t.Errorf("Pass without losses: %v", l)
	}
	if l := mustRestore(t, none, measured); !slices.Equal(l, measured) {
		t.Errorf("Restore without losses: %v", l)
	}
	for _, loss := range [][]rain.Point{none, tableL(), halving()} {
		mustPass(t, loss, nil)
		mustRestore(t, loss, nil)
		if l := mustPass(t, loss, []int{maxPower}); l[0] != pt(maxPower) {
			t.Errorf("Pass of the first gate: %v", l)
		}
		if l := mustRestore(t, loss, spans(5, maxPower)); l[0] != span(5, maxPower) {
			t.Errorf("Restore of the first gate: %v", l)
		}
	}
}

// P5.3: passages from the whole down to nothing. With half of a power lost in
// each gate, that of the gate 10 is MinPass, and that of the gate 30 is 1.
func TestPassages(t *testing.T) {
	powers := slices.Repeat([]int{maxPower - 1}, 200)
	l := mustPass(t, halving(), powers)
	for gate, want := range map[int]api.Span{
		0: pt(maxPower - 1), 1: span(maxPower/2-1, maxPower/2), 10: span(1048575, 1048576), 29: span(1, 2), 30: span(0, 1), 31: span(0, 1), 199: span(0, 1),
	} {
		if l[gate] != want {
			t.Errorf("Pass at the gate %d: %v, want %v", gate, l[gate], want)
		}
	}
	weak := slices.Repeat(spans(3, 5), 200)
	strong := slices.Repeat(spans(2, 2000000), 200)
	unheard := slices.Repeat(spans(0, 0), 200)
	a, b, c := mustRestore(t, halving(), weak), mustRestore(t, halving(), strong), mustRestore(t, halving(), unheard)
	for gate, want := range map[int][3]api.Span{
		0:   {span(3, 5), span(2, 2000000), pt(0)},
		1:   {span(6, 10), span(4, 4000000), pt(0)},
		9:   {span(1536, 2560), span(1024, 1024000000), pt(0)},
		10:  {span(3072, 5120), span(2048, maxPower), pt(0)}, // 2,048,000,000 would be above MaxPower
		11:  {span(6144, maxPower), span(4096, maxPower), span(0, maxPower)},
		28:  {span(805306368, maxPower), span(536870912, maxPower), span(0, maxPower)},
		29:  {pt(maxPower), pt(maxPower), span(0, maxPower)}, // 3 times 2^29 would be above MaxPower
		30:  {pt(maxPower), pt(maxPower), span(0, maxPower)},
		199: {pt(maxPower), pt(maxPower), span(0, maxPower)},
	} {
		if got := [3]api.Span{a[gate], b[gate], c[gate]}; got != want {
			t.Errorf("Restore at the gate %d: %v, want %v", gate, got, want)
		}
	}
}

// P5.3: both ends of what is lost are those of the power that was restored,
// also where this would be above MaxPower.
func TestLostFromBothEnds(t *testing.T) {
	l := mustRestore(t, points(0, 0, 10, 6554, 20, 32768), spans(10, 20, 100, 100, 0, 30))
	if want := spans(10, 20, 111, 200, 0, 120); !slices.Equal(l, want) {
		t.Errorf("Restore: %v, want %v", l, want)
	}
	full := points(0, 0, maxPower-1, 0, maxPower, 32768)
	l = mustRestore(t, full, spans(maxPower, maxPower, 600000000, 600000000, 1, 1))
	if want := spans(maxPower, maxPower, maxPower, maxPower, 4, 4); !slices.Equal(l, want) {
		t.Errorf("Restore above MaxPower: %v, want %v", l, want)
	}
}

// powers returns those of a ray, as strong as some power at most.
func (n *noise) powers(gates, most int) []int {
	l := make([]int, gates)
	for i := range l {
		l[i] = n.upTo(n.of(1, most/10+1, most))
	}
	return l
}

// loss returns a table of losses, and up to which power it says something.
func (n *noise) loss() (l []rain.Point, far int) {
	far = n.of(50, 1000, maxPower)
	return n.table(2+n.upTo(30), far, n.of(0, 30, 600, 6000, 32768)), far
}

// P5.3: what passes and what is restored, against their definitions.
func TestLosses(t *testing.T) {
	n := &noise{state: 2}
	open, shut := 0, 0
	for range 300 {
		loss, far := n.loss()
		powers := n.powers(n.of(1, 5, 40, 200), min(maxPower, 2*far))
		passed := mustPass(t, loss, powers)
		if want := wantPass(loss, powers); !slices.Equal(passed, want) {
			t.Fatalf("Pass(%v, %v): %v, want %v", loss, powers, passed, want)
		}
		measured := n.around(passed, n.of(0, 3, far/5))
		restored := mustRestore(t, loss, measured)
		if want := wantRestore(loss, measured); !slices.Equal(restored, want) {
			t.Fatalf("Restore(%v, %v): %v, want %v", loss, measured, restored, want)
		}
		for _, s := range restored {
			if s.Hi == maxPower {
				shut++
			} else {
				open++
			}
		}
	}
	if open < 1000 || shut < 1000 {
		t.Errorf("%d powers are below MaxPower, %d can be there", open, shut)
	}
}

// around returns spans that lie around others, within powers.
func (n *noise) around(l []api.Span, err int) []api.Span {
	var all []api.Span
	for _, s := range l {
		all = append(all, span(max(0, s.Lo-n.upTo(err)), min(maxPower, s.Hi+n.upTo(err))))
	}
	return all
}

// P5.8, G1: powers lie in the spans that are restored from what passes, and so
// they do if more than what passes can have been measured; what is restored
// from spans within others lies within what is restored from these.
func TestPassesAndComesBack(t *testing.T) {
	n := &noise{state: 3}
	for range 400 {
		loss, far := n.loss()
		powers := n.powers(n.of(2, 10, 60, 200), min(maxPower, 2*far))
		passed := mustPass(t, loss, powers)
		restored := mustRestore(t, loss, passed)
		for gate, z := range powers {
			if !isWithin(pt(z), restored[gate]) {
				t.Fatalf("%v by %v: %v at the gate %d", powers, loss, restored, gate)
			}
		}
		wider := n.around(passed, n.of(2, far/5, far))
		if outer := mustRestore(t, loss, wider); !areWithin(restored, outer) {
			t.Fatalf("%v and %v by %v: %v and %v", passed, wider, loss, restored, outer)
		}
		var inner []api.Span
		for _, s := range wider {
			inner = append(inner, n.inside(s))
		}
		if a, b := mustRestore(t, loss, inner), mustRestore(t, loss, wider); !areWithin(a, b) {
			t.Fatalf("%v and %v by %v: %v and %v", inner, wider, loss, a, b)
		}
	}
}

// P5.8: with greater measured powers no restored power becomes less.
func TestGreaterMeasured(t *testing.T) {
	n := &noise{state: 5}
	for range 500 {
		loss, far := n.loss()
		less := n.around(mustPass(t, loss, n.powers(n.of(2, 10, 60), min(maxPower, 2*far))), n.of(0, 5, far))
		more := slices.Clone(less)
		for range n.of(1, 2, 20) {
			s := &more[n.upTo(len(more)-1)]
			s.Hi += n.upTo(min(far, maxPower-s.Hi))
			s.Lo += n.upTo(s.Hi - s.Lo)
		}
		a, b := mustRestore(t, loss, less), mustRestore(t, loss, more)
		for gate := range a {
			if b[gate].Lo < a[gate].Lo || b[gate].Hi < a[gate].Hi {
				t.Fatalf("%v and %v by %v: %v and %v", less, more, loss, a, b)
			}
		}
	}
}

// P5.3: the errors of both, in order: the table, the gates, the powers.
func TestLossErrors(t *testing.T) {
	checkLimits(t, "a power", 0, maxPower, func(z int) api.Errno {
		l, e := rain.Pass(tableL(), []int{0, z, 0})
		if e != api.OK && len(l) > 0 {
			t.Errorf("Pass of %d: %v with the error %d", z, l, e)
		}
		return e
	})
	for what, of := range map[string]func(n int) api.Span{
		"a point": pt,
		"Lo":      func(n int) api.Span { return span(n, maxPower) },
		"Hi":      func(n int) api.Span { return span(0, n) },
	} {
		checkLimits(t, "measured, "+what, 0, maxPower, func(m int) api.Errno {
			l, e := rain.Restore(tableL(), []api.Span{pt(1), of(m)})
			if e != api.OK && len(l) > 0 {
				t.Errorf("Restore from %v: %v with the error %d", of(m), l, e)
			}
			return e
		})
	}
	checkLimits(t, "a loss", 0, 32768, func(r int) api.Errno {
		_, e := rain.Pass(points(0, r, 1, r), []int{1})
		_, f := rain.Restore(points(0, r, 1, r), spans(1, 1))
		if e != f {
			t.Errorf("a loss of %d: the errors %d and %d", r, e, f)
		}
		return e
	})
	for _, x := range []struct {
		loss  []rain.Point
		gates int
		bad   bool
		want  api.Errno
	}{
		{tableL(), 200, false, api.OK}, {tableL(), 200, true, api.ErrRange},
		{tableL(), 201, false, api.ErrMany}, {tableL(), 201, true, api.ErrMany},
		{nil, 201, true, api.ErrEmpty}, {many(33), 1, true, api.ErrMany}, {points(0, 0, 0, 0), 201, true, api.ErrOrder},
	} {
		powers, measured := make([]int, x.gates), make([]api.Span, x.gates)
		if x.bad {
			powers[x.gates-1], measured[x.gates-1] = math.MinInt, span(1, 0)
		}
		a, e := rain.Pass(x.loss, powers)
		b, f := rain.Restore(x.loss, measured)
		if e != x.want || f != x.want || e != api.OK && len(a)+len(b) > 0 {
			t.Errorf("%d gates by %v: the errors %d and %d, want %d", x.gates, x.loss, e, f, x.want)
		}
	}
}
