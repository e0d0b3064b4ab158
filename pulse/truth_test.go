package pulse_test

import (
	"testing"

	"radome/api"
	"radome/pulse"
)

// truth returns valid samples that are true of others, for a receiver: some of
// them as far from the others as they can be.
func (n *noise) truth(r pulse.Receiver, l []pulse.Sample) []pulse.Sample {
	near := func(x, err int) int {
		if n.upTo(1) == 0 {
			return n.about(x, err)
		}
		return x + n.of(-err, err)
	}
	var all []pulse.Sample
	for _, x := range l {
		all = append(all, pulse.Sample{
			H: min(1023, max(0, near(x.H, r.Level))), P: mod(near(x.P, r.Phase)),
			V: min(1023, max(0, near(x.V, r.Level))), Q: mod(near(x.Q, r.Phase)),
		})
	}
	return all
}

// isHeardWithin reports whether what echoes say of magnitudes lies within what
// others say.
func isHeardWithin(x, outer api.Echo) bool {
	return isWithin(x.Power, outer.Power) && isWithin(x.Ratio, outer.Ratio) && isWithin(x.Match, outer.Match)
}

// isClearWithin reports whether all spans of a clear echo lie within those of
// another one.
func isClearWithin(x, outer api.Echo) bool {
	for which := range 2 {
		if !isTurnedWithin(x.Steps[which], outer.Steps[which]) {
			return false
		}
	}
	return x.Kind == api.Clear && isHeardWithin(x, outer) && isTurnedWithin(x.Turn, outer.Turn)
}

// P2.6, G1: the echo of what is true lies within that of what was heard.
func TestTruth(t *testing.T) {
	n := &noise{state: 9}
	kinds := map[[2]int]int{}
	for range 12000 {
		x, r := n.train(), n.receiver()
		l := n.samples(x)
		noise := r.Noise.Lo + n.upTo(r.Noise.Hi-r.Noise.Lo)
		true1 := n.truth(r, l)
		heard, truth := mustHear(t, x, r, l), mustHear(t, x, pulse.Receiver{Noise: pt(noise)}, true1)
		kinds[[2]int{heard.Kind, truth.Kind}]++
		ok := isWithin(truth.Power, heard.Power)
		switch heard.Kind {
		case api.Clear:
			ok = ok && isClearWithin(truth, heard)
		case api.Mixed:
			ok = ok && truth.Kind != api.Quiet && isHeardWithin(truth, heard)
		}
		if heard.Kind != api.Quiet && truth.Kind != api.Quiet {
			difference := truth.Spread - heard.Spread
			ok = ok && difference <= 4*r.Phase && -difference <= 4*r.Phase
		}
		if !ok {
			t.Fatalf("Hear(%v, %v, %v): %+v, but of %v with the noise %d: %+v", x, r, l, heard, true1, noise, truth)
		}
	}
	for _, pair := range [][2]int{{api.Clear, api.Clear}, {api.Mixed, api.Mixed}, {api.Mixed, api.Clear}, {api.Quiet, api.Quiet}, {api.Quiet, api.Mixed}, {api.Quiet, api.Clear}} {
		if kinds[pair] < 20 {
			t.Errorf("an echo of the kind %d is truly of the kind %d only %d times", pair[0], pair[1], kinds[pair])
		}
	}
}

// P2.7, G1: a better receiver says nothing else, only more.
func TestBetterReceiver(t *testing.T) {
	n := &noise{state: 21}
	kinds := map[[2]int]int{}
	for range 12000 {
		x, r := n.train(), n.receiver()
		better := pulse.Receiver{Level: n.of(r.Level, n.upTo(r.Level)), Phase: n.of(r.Phase, n.upTo(r.Phase)), Noise: n.inside(r.Noise)}
		l := n.samples(x)
		old, now := mustHear(t, x, r, l), mustHear(t, x, better, l)
		kinds[[2]int{old.Kind, now.Kind}]++
		ok := isWithin(now.Power, old.Power)
		switch old.Kind {
		case api.Clear:
			ok = ok && isClearWithin(now, old) && now.Spread == old.Spread
		case api.Mixed:
			ok = ok && now.Kind != api.Quiet && isHeardWithin(now, old) && now.Spread == old.Spread
		}
		if !ok {
			t.Fatalf("Hear(%v, .., %v): %+v for %v, but %+v for %v", x, l, old, r, now, better)
		}
	}
	if kinds[[2]int{api.Mixed, api.Clear}] < 20 || kinds[[2]int{api.Quiet, api.Clear}] < 20 {
		t.Errorf("a better receiver hears no more: %v", kinds)
	}
}

// change returns samples with other phases.
func change(l []pulse.Sample, phase func(i, p int) int) []pulse.Sample {
	var all []pulse.Sample
	for i, x := range l {
		x.P, x.Q = mod(phase(i, x.P)), mod(phase(i, x.Q))
		all = append(all, x)
	}
	return all
}

// withoutSteps returns an echo without what opposite or moved phases change.
func withoutSteps(x api.Echo) api.Echo {
	x.Steps = [2]api.Span{}
	return x
}

func withoutPhases(x api.Echo) api.Echo {
	x.Turn = api.Span{}
	return withoutSteps(x)
}

// isTurned reports whether a span is another one, moved by whole turns.
func isTurned(s, other api.Span) bool {
	return s.Hi-s.Lo == other.Hi-other.Lo && mod(s.Lo) == mod(other.Lo)
}

func opposite(s api.Span) api.Span { return span(-s.Hi, -s.Lo) }

// P2.8: phases that are turned, moved from pulse to pulse, and opposite.
func TestTurnedPhases(t *testing.T) {
	n := &noise{state: 33}
	clear := 0
	for range 6000 {
		x, r := n.train(), n.receiver()
		l, s := n.samples(x), n.of(1, 32768, 65535, n.upTo(65535))
		echo := mustHear(t, x, r, l)
		turned := mustHear(t, x, r, change(l, func(i, p int) int { return p + s }))
		if turned != echo {
			t.Fatalf("Hear(%v, %v, %v): %+v, but turned by %d %+v", x, r, l, echo, s, turned)
		}
		moved := mustHear(t, x, r, change(l, func(i, p int) int { return p + i*s }))
		opposed := mustHear(t, x, r, change(l, func(i, p int) int { return -p }))
		ok := withoutSteps(moved) == withoutSteps(echo) && withoutPhases(opposed) == withoutPhases(echo)
		if echo.Kind == api.Clear {
			clear++
			by := [2]int{s, s}
			if x.Kind == pulse.One {
				by[1] = 0 // there are no steps of Second
			}
			for which, old := range echo.Steps {
				ok = ok && isTurned(moved.Steps[which], span(old.Lo+by[which], old.Hi+by[which])) && isTurned(opposed.Steps[which], opposite(old))
			}
			ok = ok && isTurned(opposed.Turn, opposite(echo.Turn))
		}
		if !ok {
			t.Fatalf("Hear(%v, %v, %v): %+v, moved by %d %+v, opposed %+v", x, r, l, echo, s, moved, opposed)
		}
	}
	if clear < 500 {
		t.Errorf("only %d clear echoes", clear)
	}
}
