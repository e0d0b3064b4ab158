package fold_test

import (
	"math/big"
	"slices"
	"testing"

	"radome/api"
	"radome/fold"
	"radome/pulse"
)

func exactly(num, den int) *big.Rat { return big.NewRat(int64(num), int64(den)) }

func floor(x *big.Rat) int { return int(new(big.Int).Div(x.Num(), x.Denom()).Int64()) }

func ceil(x *big.Rat) int { return -floor(new(big.Rat).Neg(x)) }

// wantSpan is S(k), for a time of a train.
func wantSpan(x pulse.Train, time int, step api.Span, k int) api.Span {
	fold := exactly(500*x.Lambda, time)
	part := func(s int) *big.Rat { return new(big.Rat).Mul(fold, exactly(s+k*65536, 65536)) }
	return span(floor(part(step.Lo)), ceil(part(step.Hi)))
}

// wantCommon has what spans have in common, and none if there is nothing.
func wantCommon(l ...api.Span) []api.Span {
	lo, hi := l[0].Lo, l[0].Hi
	for _, x := range l {
		lo, hi = max(lo, x.Lo), min(hi, x.Hi)
	}
	if lo > hi {
		return nil
	}
	return []api.Span{span(lo, hi)}
}

// wantGuesses tries all numbers of turns.
func wantGuesses(t pulse.Train, x api.Echo, most int) ([]fold.Guess, api.Errno) {
	bound := span(-most, most)
	var l []fold.Guess
	seconds := map[int]api.Span{}
	for j := -64; j <= 64 && t.Kind != pulse.One; j++ {
		seconds[j] = wantSpan(t, t.Second, x.Steps[1], j)
	}
	for k := -64; k <= 64; k++ {
		first := wantSpan(t, t.First, x.Steps[0], k)
		met := wantCommon(bound, first)
		if len(met) > 0 && max(k, -k) == 64 {
			return nil, api.ErrMany
		}
		if t.Kind == pulse.One {
			for _, speed := range met {
				l = append(l, fold.Guess{Whole: [2]int{k, 0}, Speed: speed})
			}
			continue
		}
		for j := -64; j <= 64; j++ {
			second := seconds[j]
			if len(wantCommon(bound, second)) > 0 && max(j, -j) == 64 {
				return nil, api.ErrMany
			}
			for _, speed := range wantCommon(bound, first, second) {
				l = append(l, fold.Guess{Whole: [2]int{k, j}, Speed: speed})
			}
		}
	}
	return l, api.OK
}

// step returns the steps of a Clear echo: narrow or wide ones.
func (n *noise) step() api.Span {
	lo := n.of(-32768, 0, 32767, n.upTo(65535)-32768)
	return span(lo, lo+n.of(0, 1, 300, 20000, 65535, n.upTo(65535)))
}

// P3.1: the examples.
func TestGuessesExamples(t *testing.T) {
	e, x := heard(pt(16384), pt(0)), heard(span(13107, 13108), span(0, 1))
	guess := func(first, second, lo, hi int) fold.Guess {
		return fold.Guess{Whole: [2]int{first, second}, Speed: span(lo, hi)}
	}
	for _, c := range []struct {
		t    pulse.Train
		x    api.Echo
		most int
		want []fold.Guess
	}{
		{single(), e, 100000, []fold.Guess{guess(-2, 0, -87500, -87500), guess(-1, 0, -37500, -37500), guess(0, 0, 12500, 12500), guess(1, 0, 62500, 62500)}},
		{single(), e, 30000, []fold.Guess{guess(0, 0, 12500, 12500)}},
		{double(), x, 100000, []fold.Guess{guess(-1, -1, -40000, -39999)}},
		{single(), e, 12499, nil},
		{single(), e, 12500, []fold.Guess{guess(0, 0, 12500, 12500)}},
		{single(), e, 37499, []fold.Guess{guess(0, 0, 12500, 12500)}},
		// the bound cuts spans, and has only a point of some
		{single(), heard(span(-16384, 16384), pt(0)), 12000, []fold.Guess{guess(0, 0, -12000, 12000)}},
		{single(), heard(span(-16384, 16384), pt(0)), 37500, []fold.Guess{guess(-1, 0, -37500, -37500), guess(0, 0, -12500, 12500), guess(1, 0, 37500, 37500)}},
		// a span as wide as a turn, but for a part: by rounding its guesses touch
		{single(), heard(span(0, 65535), pt(0)), 60000, []fold.Guess{guess(-2, 0, -60000, -50000), guess(-1, 0, -50000, 0), guess(0, 0, 0, 50000), guess(1, 0, 50000, 60000)}},
	} {
		if l := mustGuess(t, c.t, c.x, c.most); !slices.Equal(l, c.want) {
			t.Errorf("Guesses(%v, %v, %d): %v, want %v", c.t, c.x, c.most, l, c.want)
		}
	}
}

// P3.1: guesses of trains of each kind, with steps and bounds of any width.
func TestGuesses(t *testing.T) {
	n := &noise{state: 1}
	counts := map[int]int{}
	for range 1500 {
		x := trains()[n.upTo(len(trains())-1)]
		echo := heard(n.step(), n.step())
		most := n.of(1, 100, 12345, 40000, 100000, 200000, 1+n.upTo(199999))
		want, wantE := wantGuesses(x, echo, most)
		got, e := fold.Guesses(x, echo, most)
		if !slices.Equal(got, want) || e != wantE {
			t.Fatalf("Guesses(%v, %v, %d): %v %d, want %v %d", x, echo, most, got, e, want, wantE)
		}
		counts[min(len(got), 3)]++
	}
	for count := range 4 {
		if counts[count] < 50 {
			t.Errorf("only %d cases with %d guesses", counts[count], count)
		}
	}
}

// P3.9: what two times leave is left by each of them alone.
func TestTwoTimes(t *testing.T) {
	n := &noise{state: 2}
	met := 0
	for range 3000 {
		x := trains()[n.upTo(len(trains())-1)]
		if x.Kind == pulse.One {
			continue
		}
		echo := heard(n.step(), n.step())
		most := n.of(1000, 50000, 200000)
		l, e := fold.Guesses(x, echo, most)
		if e != api.OK {
			continue
		}
		first := mustGuess(t, alone(x, x.First), echo, most)
		second := mustGuess(t, alone(x, x.Second), heard(echo.Steps[1], pt(0)), most)
		for _, g := range l {
			met++
			if !leadsTo(first, g.Whole[0], g.Speed) || !leadsTo(second, g.Whole[1], g.Speed) {
				t.Fatalf("%v of %v and %v alone: %v; %v", g, x, echo, first, second)
			}
		}
	}
	if met < 1000 {
		t.Errorf("only %d guesses", met)
	}
}

// alone returns the train One with a time of another one.
func alone(x pulse.Train, time int) pulse.Train {
	return pulse.Train{Lambda: x.Lambda, Kind: pulse.One, First: time, Count: 2}
}

// leadsTo reports whether one of some guesses has this number of turns, and a
// speed around another one.
func leadsTo(l []fold.Guess, whole int, speed api.Span) bool {
	return slices.ContainsFunc(l, func(g fold.Guess) bool {
		return g.Whole == [2]int{whole, 0} && isWithin(speed, g.Speed)
	})
}

// P3.1: Union, its example, and spans that touch or just do not.
func TestUnionExamples(t *testing.T) {
	for _, x := range []struct{ l, want []api.Span }{
		{spans(5, 7, 1, 2, 2, 4, 9, 9), spans(1, 4, 5, 7, 9, 9)},
		{nil, nil},
		{spans(3, 3), spans(3, 3)},
		{spans(3, 3, 3, 3, 3, 3), spans(3, 3)},
		{spans(0, 1, 2, 3), spans(0, 1, 2, 3)},
		{spans(0, 1, 1, 3), spans(0, 3)},
		{spans(0, 9, 2, 3, 9, 9, 10, 10), spans(0, 9, 10, 10)},
		{spans(0, 9, 2, 3, 5, 12), spans(0, 12)},
		{spans(-200000, 200000, 5, 7), spans(-200000, 200000)},
		{spans(200000, 200000, -200000, -200000), spans(-200000, -200000, 200000, 200000)},
	} {
		if l, e := fold.Union(x.l); !slices.Equal(l, x.want) || e != api.OK {
			t.Errorf("Union(%v): %v %d, want %v", x.l, l, e, x.want)
		}
	}
}

// P3.1: the union has just the numbers of all spans, in the form of a set.
func TestUnion(t *testing.T) {
	n := &noise{state: 3}
	for range 3000 {
		var l []api.Span
		for range n.upTo(12) {
			l = append(l, n.inside(span(-20, 20)))
		}
		u, e := fold.Union(l)
		if e != api.OK || !isFormed(u) {
			t.Fatalf("Union(%v): %v %d", l, u, e)
		}
		for half := -42; half <= 42; half++ {
			if has(u, half) != has(l, half) {
				t.Fatalf("Union(%v): %v, which is not right for %d / 2", l, u, half)
			}
		}
	}
}
