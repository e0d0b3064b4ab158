package rain_test

import (
	"math"
	"testing"

	"radome/api"
	"radome/rain"
)

// P5.3: the examples, and beams of which no thread, some or all are blocked.
func TestFillExamples(t *testing.T) {
	for _, x := range []struct {
		power   api.Span
		threads int
		blocked api.Span
		want    api.Span
	}{
		{span(100, 200), 3, span(0, 1), span(100, 300)},
		{span(100, 200), 3, pt(3), span(300, maxPower)},
		{span(100, 200), 3, span(1, 3), span(150, maxPower)},
		{span(100, 200), 3, pt(0), span(100, 200)},
		{span(100, 200), 3, pt(1), span(150, 300)},
		{span(100, 200), 3, pt(2), span(300, 600)},
		{span(100, 200), 3, span(0, 3), span(100, maxPower)},
		{span(101, 101), 5, pt(2), span(168, 169)},
		{span(100, 200), 1, pt(0), span(100, 200)},
		{span(100, 200), 1, span(0, 1), span(100, maxPower)},
		{span(100, 200), 1, pt(1), span(100, maxPower)},
		{pt(0), 17, pt(16), pt(0)},
		{pt(0), 17, pt(17), span(0, maxPower)},
		{pt(maxPower), 17, pt(0), pt(maxPower)},
		{pt(maxPower), 17, pt(1), pt(maxPower)},
		{pt(maxPower), 17, pt(17), pt(maxPower)},
		{span(63161283, 63161284), 17, pt(16), span(1073741811, maxPower)},
	} {
		if got := mustFill(t, x.power, x.threads, x.blocked); got != x.want {
			t.Errorf("Fill(%v, %d, %v): %v, want %v", x.power, x.threads, x.blocked, got, x.want)
		}
	}
}

// P5.3: all numbers of threads, and all that can be blocked, against the
// definition; a truth within the spans lies within what it is filled to.
func TestFill(t *testing.T) {
	n := &noise{state: 11}
	for threads := 1; threads <= 17; threads++ {
		for lo := range threads + 1 {
			for hi := lo; hi <= threads; hi++ {
				power := n.inside(span(0, n.of(9, 1000, maxPower)))
				got := mustFill(t, power, threads, span(lo, hi))
				if want := wantFill(power, threads, span(lo, hi)); got != want {
					t.Fatalf("Fill(%v, %d, %d to %d): %v, want %v", power, threads, lo, hi, got, want)
				}
				blocked, inner := n.inside(span(lo, hi)), n.inside(power)
				if tight := mustFill(t, inner, threads, blocked); !isWithin(tight, got) {
					t.Fatalf("Fill(%v, %d, %v): %v, not in %v", inner, threads, blocked, tight, got)
				}
			}
		}
	}
}

// P5.3: each number of Fill, from its least to its greatest value.
func TestFillErrors(t *testing.T) {
	fill := func(power api.Span, threads int, blocked api.Span) api.Errno {
		s, e := rain.Fill(power, threads, blocked)
		if e != api.OK && s != (api.Span{}) {
			t.Errorf("Fill(%v, %d, %v): %v with the error %d", power, threads, blocked, s, e)
		}
		return e
	}
	checkLimits(t, "a power", 0, maxPower, func(n int) api.Errno { return fill(pt(n), 3, pt(1)) })
	checkLimits(t, "power.Lo", 0, 77, func(n int) api.Errno { return fill(span(n, 77), 3, pt(1)) })
	checkLimits(t, "power.Hi", 77, maxPower, func(n int) api.Errno { return fill(span(77, n), 3, pt(1)) })
	checkLimits(t, "threads", 1, 17, func(n int) api.Errno { return fill(pt(5), n, pt(0)) })
	checkLimits(t, "threads, of which 4 are blocked", 4, 17, func(n int) api.Errno { return fill(pt(5), n, span(2, 4)) })
	checkLimits(t, "blocked", 0, 3, func(n int) api.Errno { return fill(pt(5), 3, pt(n)) })
	checkLimits(t, "blocked.Lo", 0, 2, func(n int) api.Errno { return fill(pt(5), 3, span(n, 2)) })
	checkLimits(t, "blocked.Hi", 2, 17, func(n int) api.Errno { return fill(pt(5), 17, span(2, n)) })
}

// P5.4: the examples; and bands below the layer, in it, above it and across
// it, whose ends are its ends, or lie just beside them.
func TestFactorExamples(t *testing.T) {
	below, in, above := pt(1000), span(200, 900), span(1100, 3000)
	belowAndIn, inAndAbove, all := span(200, 1000), span(200, 3000), span(200, 3000)
	m := model()
	m.In, m.Above = in, above
	for band, want := range map[api.Span]api.Span{
		span(0, 1999): below, span(1000, 2200): belowAndIn, span(2600, 3000): above, span(0, 9000): all,
		pt(1999): below, pt(2000): in, pt(2500): in, pt(2501): above,
		span(2000, 2500): in, span(2100, 2400): in,
		span(1999, 2000): belowAndIn, span(1999, 2500): belowAndIn, span(0, 2000): belowAndIn,
		span(2500, 2501): inAndAbove, span(2000, 2501): inAndAbove, span(2500, 9000): inAndAbove,
		span(1999, 2501): all, span(math.MinInt, math.MaxInt): all,
		span(math.MinInt, 1999): below, span(math.MinInt, math.MinInt): below, span(-5, -5): below,
		span(2501, math.MaxInt): above, span(math.MaxInt, math.MaxInt): above, span(math.MinInt, 2000): belowAndIn, span(2500, math.MaxInt): inAndAbove,
	} {
		if got := mustFactor(t, m, band); got != want {
			t.Errorf("Factor of the band %v: %v, want %v", band, got, want)
		}
	}
	for band, want := range map[api.Span]api.Span{
		span(0, 1999): below, span(1000, 2200): span(200, 1000), span(2600, 3000): span(1000, 3000), span(0, 9000): span(200, 3000),
	} {
		if got := mustFactor(t, model(), band); got != want {
			t.Errorf("Factor of the chapter's example, the band %v: %v, want %v", band, got, want)
		}
	}
	m.In, m.Above = span(1500, 1600), span(20, 30)
	for band, want := range map[api.Span]api.Span{
		span(0, 2000): span(1000, 1600), span(2500, 2600): span(20, 1600), span(0, 2600): span(20, 1600), span(1999, 1999): below,
	} {
		if got := mustFactor(t, m, band); got != want {
			t.Errorf("Factor of the band %v, with less rain above: %v, want %v", band, got, want)
		}
	}
}

// P5.4: layers at the ends of what they can be.
func TestFactorLayers(t *testing.T) {
	m := model()
	m.In, m.Above = span(200, 900), span(1100, 3000)
	for _, x := range []struct {
		melt, band, want api.Span
	}{
		{pt(0), span(0, 0), span(200, 900)}, {pt(0), span(-1, -1), pt(1000)}, {pt(0), span(0, 1), span(200, 3000)}, {pt(0), span(1, 5), span(1100, 3000)},
		{pt(20000), span(0, 19999), pt(1000)}, {pt(20000), span(20000, 20000), span(200, 900)}, {pt(20000), span(20001, 20001), span(1100, 3000)},
		{span(0, 20000), span(0, 20000), span(200, 900)}, {span(0, 20000), span(-1, 20001), span(200, 3000)},
	} {
		m.Melt = x.melt
		if got := mustFactor(t, m, x.band); got != x.want {
			t.Errorf("Factor of the layer %v, the band %v: %v, want %v", x.melt, x.band, got, x.want)
		}
	}
}

// P5.4, G1: factors against all heights of a band; with a band and factors
// within others, the factor lies within that of the others.
func TestFactor(t *testing.T) {
	n := &noise{state: 12}
	for range 3000 {
		m := n.model(30)
		band := n.inside(span(-10, 45))
		got := mustFactor(t, m, band)
		if want := wantFactor(m, band); got != want {
			t.Fatalf("Factor(%v, %v): %v, want %v", m, band, got, want)
		}
		inner := m
		inner.In, inner.Above = n.inside(m.In), n.inside(m.Above)
		tight := n.inside(band)
		if f := mustFactor(t, inner, tight); !isWithin(f, got) {
			t.Fatalf("Factor(%v, %v): %v, not in %v", inner, tight, f, got)
		}
	}
}

// P5.4: the error of the model comes ahead of that of the band.
func TestFactorErrors(t *testing.T) {
	for _, band := range []api.Span{span(0, 0), span(1, 0), span(math.MaxInt, math.MinInt), span(2500, 2000)} {
		want := api.OK
		if band.Lo > band.Hi {
			want = api.ErrRange
		}
		if f, e := rain.Factor(model(), band); e != want || e != api.OK && f != (api.Span{}) {
			t.Errorf("Factor of the band %v: %v %d, want %d", band, f, e, want)
		}
		m := model()
		m.Above.Hi = 100001
		if f, e := rain.Factor(m, band); e != api.ErrRange || f != (api.Span{}) {
			t.Errorf("Factor of a model with an error, the band %v: %v %d", band, f, e)
		}
		m.Rate = many(33)
		if f, e := rain.Factor(m, band); e != api.ErrMany || f != (api.Span{}) {
			t.Errorf("Factor of a model with another error, the band %v: %v %d", band, f, e)
		}
	}
}
