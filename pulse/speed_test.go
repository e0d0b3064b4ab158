package pulse_test

import (
	"math"
	"testing"

	"radome/api"
	"radome/pulse"
)

// P2.5: the examples.
func TestSpeedExamples(t *testing.T) {
	for whole, want := range map[int]api.Span{0: span(83, 84), 1: span(50083, 50084), -1: span(-49917, -49916)} {
		if s, e := pulse.Speed(one(), 0, pt(110), whole); s != want || e != api.OK {
			t.Errorf("Speed with %d turns: %v %d", whole, s, e)
		}
	}
	if num, den, e := pulse.Fold(one(), 0); num != 50000000 || den != 1000 || e != api.OK {
		t.Errorf("Fold: %d %d %d", num, den, e)
	}
	if m, e := pulse.Reach(one(), 0); m != 150000 || e != api.OK {
		t.Errorf("Reach: %d %d", m, e)
	}
}

// wantSpeed is the exact speed for a step with whole turns, rounded.
func wantSpeed(lambda, time int, step api.Span, whole int) api.Span {
	exact := func(s int) (num, den int) { return 500 * lambda * (s + whole*65536), 65536 * time }
	return span(floor(exact(step.Lo)), ceil(exact(step.Hi)))
}

func steps() []api.Span {
	return []api.Span{
		pt(0), pt(1), pt(-1), pt(110), pt(65536), pt(-131072), pt(131072), pt(-32768), pt(32767),
		span(-131072, 131072), span(-5, 7), span(108, 112), span(-40000, 90000), span(16384, 16385),
	}
}

// P2.5: speeds, folds and reaches of both times of trains of each kind.
func TestSpeeds(t *testing.T) {
	for _, x := range trains() {
		for which, time := range [2]int{x.First, x.Second} {
			if which == 1 && x.Kind == pulse.One {
				continue
			}
			for _, s := range steps() {
				for _, whole := range []int{-64, -3, 0, 1, 2, 64} {
					want := wantSpeed(x.Lambda, time, s, whole)
					if got, e := pulse.Speed(x, which, s, whole); got != want || e != api.OK {
						t.Errorf("Speed(%v, %d, %v, %d): %v %d, want %v", x, which, s, whole, got, e, want)
					}
				}
			}
			if num, den, e := pulse.Fold(x, which); num != 500*x.Lambda || den != time || e != api.OK {
				t.Errorf("Fold(%v, %d): %d %d %d", x, which, num, den, e)
			}
			if m, e := pulse.Reach(x, which); m != 150*time || e != api.OK {
				t.Errorf("Reach(%v, %d): %d %d", x, which, m, e)
			}
		}
	}
}

// P2.5: times that a train does not have, ahead of what is out of range.
func TestSpeedTimes(t *testing.T) {
	for _, x := range trains() {
		for _, which := range []int{math.MinInt, -1, 0, 1, 2, math.MaxInt} {
			want, beyond := api.OK, api.ErrRange
			if which < 0 || which > 1 || which == 1 && x.Kind == pulse.One {
				want, beyond = api.ErrArg, api.ErrArg
			}
			_, e := pulse.Speed(x, which, pt(0), 0)
			wantErr(t, "Speed", e, want)
			_, e = pulse.Speed(x, which, span(1, 0), 65)
			wantErr(t, "Speed out of range", e, beyond)
			num, den, e := pulse.Fold(x, which)
			wantErr(t, "Fold", e, want)
			if e != api.OK && (num != 0 || den != 0) {
				t.Errorf("Fold with the error %d: %d %d", e, num, den)
			}
			m, e := pulse.Reach(x, which)
			wantErr(t, "Reach", e, want)
			if e != api.OK && m != 0 {
				t.Errorf("Reach with the error %d: %d", e, m)
			}
		}
	}
}

// P2.5: steps and whole turns that are out of range.
func TestSpeedRanges(t *testing.T) {
	var step api.Span
	var whole int
	check := func() api.Errno {
		s, e := pulse.Speed(turns(3), 1, step, whole)
		if e != api.OK && s != (api.Span{}) {
			t.Errorf("Speed with the error %d: %v", e, s)
		}
		return e
	}
	for _, l := range []limits{
		{"step", -131072, 131072, func(n int) { step = pt(n) }},
		{"step.Lo", -131072, 5, func(n int) { step = span(n, 5) }},
		{"step.Hi", 5, 131072, func(n int) { step = span(5, n) }},
		{"whole", -64, 64, func(n int) { whole = n }},
	} {
		step, whole = pt(0), 0
		checkLimits(t, l, check)
	}
}

// P2.10: a whole turn more is the fold more, within 1; and steps within others
// lead to speeds within theirs.
func TestSpeedsMoved(t *testing.T) {
	n := &noise{state: 17}
	for range 3000 {
		x := n.train()
		which := n.upTo(1)
		if x.Kind == pulse.One {
			which = 0
		}
		outer, whole := n.inside(span(-131072, 131072)), n.upTo(127)-64
		wide, e := pulse.Speed(x, which, outer, whole)
		inner := n.inside(outer)
		if s, _ := pulse.Speed(x, which, inner, whole); !isWithin(s, wide) || e != api.OK {
			t.Fatalf("Speed(%v, %d): %v for %v, %v for %v", x, which, s, inner, wide, outer)
		}
		more, e := pulse.Speed(x, which, outer, whole+1)
		num, den, _ := pulse.Fold(x, which)
		for _, d := range []int{more.Lo - wide.Lo, more.Hi - wide.Hi} {
			if d*den < num-den || d*den > num+den || e != api.OK {
				t.Fatalf("Speed(%v, %d, %v): %v, and %v with a turn more", x, which, outer, wide, more)
			}
		}
	}
}
