package beam_test

import (
	"math/big"
	"testing"

	"radome/api"
	"radome/beam"
)

// gatesToTry are all gates of a site, or its first and last ones and some between.
func gatesToTry(s api.Site) []int {
	var l []int
	for j := range s.Gates {
		if s.Gates < 20 || j < 3 || j > s.Gates-3 || j%37 == 0 {
			l = append(l, j)
		}
	}
	return l
}

// P1.3: ground ranges, against their definition.
func TestGround(t *testing.T) {
	for _, s := range sites() {
		for tilt := 0; tilt <= api.MaxTilt; tilt++ {
			for _, j := range gatesToTry(s) {
				if g, e := beam.Ground(s, tilt, j); g != wantGround(s, tilt, j) || e != api.OK {
					t.Fatalf("Ground of %s, %d, %d: %v %d", s.Name, tilt, j, g, e)
				}
			}
		}
	}
}

// P1.3: heights and bands, against their definitions.
func TestHeightAndBand(t *testing.T) {
	for _, s := range sites() {
		for _, earth := range earths() {
			for tilt := -api.MaxWidth; tilt <= api.MaxTilt+api.MaxWidth; tilt += 4 {
				for _, j := range gatesToTry(s) {
					if h, e := beam.Height(s, tilt, earth, j); h != wantHeight(s, tilt, earth, j) || e != api.OK {
						t.Fatalf("Height of %s, %d, %v, %d: %v %d", s.Name, tilt, earth, j, h, e)
					}
				}
			}
			for _, tilt := range tilts() {
				for _, j := range gatesToTry(s) {
					if b, e := beam.Band(s, tilt, earth, j); b != wantBand(s, tilt, earth, j) || e != api.OK {
						t.Fatalf("Band of %s, %d, %v, %d: %v %d", s.Name, tilt, earth, j, b, e)
					}
				}
			}
		}
	}
}

// P1.3: the examples, and some that are easily computed by hand.
func TestRangeExamples(t *testing.T) {
	s := example()
	for tilt, want := range map[int]api.Span{0: pt(1500), 256: pt(900)} {
		if g, e := beam.Ground(s, tilt, 1); g != want || e != api.OK {
			t.Errorf("Ground at the tilt %d: %v %d", tilt, g, e)
		}
	}
	for tilt, want := range map[int]api.Span{0: {Lo: 101, Hi: 102}, 256: {Lo: 1300, Hi: 1301}} {
		if h, e := beam.Height(s, tilt, pt(1000000), 1); h != want || e != api.OK {
			t.Errorf("Height at the tilt %d: %v %d", tilt, h, e)
		}
	}
	// below the horizon: 1000 times -1024 / 262145 / 2 is between -2 and -1
	if h, e := beam.Height(s, -1, pt(10000000), 0); h != (api.Span{Lo: 98, Hi: 100}) || e != api.OK {
		t.Errorf("Height below the horizon: %v %d", h, e)
	}
	if b, e := beam.Band(s, 0, pt(10000000), 0); b != (api.Span{Lo: 98, Hi: 103}) || e != api.OK {
		t.Errorf("Band: %v %d", b, e)
	}
	s.Width = 0
	h, _ := beam.Height(s, 9, pt(10000000), 2)
	if b, _ := beam.Band(s, 9, pt(10000000), 2); b != h {
		t.Errorf("Band of a beam without a width: %v, want %v", b, h)
	}
}

// P1.3: the ends of what is asked for, and what lies beyond them.
func TestRangeErrors(t *testing.T) {
	for _, s := range sites() {
		good := pt(5000000)
		try := func(tilt int, earth api.Span, gate int, site, slanted, round bool) {
			t.Helper()
			sure := func(ok bool) api.Errno {
				if ok {
					return api.OK
				}
				return api.ErrRange
			}
			gated := gate >= 0 && gate < s.Gates
			g, e := beam.Ground(s, tilt, gate)
			if e != sure(site && gated) || e != api.OK && g != (api.Span{}) {
				t.Errorf("Ground of %s, %d, %d: %v %d", s.Name, tilt, gate, g, e)
			}
			h, e := beam.Height(s, tilt, earth, gate)
			if e != sure(slanted && round && gated) || e != api.OK && h != (api.Span{}) {
				t.Errorf("Height of %s, %d, %v, %d: %v %d", s.Name, tilt, earth, gate, h, e)
			}
			b, e := beam.Band(s, tilt, earth, gate)
			if e != sure(site && round && gated) || e != api.OK && b != (api.Span{}) {
				t.Errorf("Band of %s, %d, %v, %d: %v %d", s.Name, tilt, earth, gate, b, e)
			}
		}
		for _, n := range append(extremes(), -9, -8, 256, 257, 264, 265) {
			try(n, good, 0, n >= 0 && n <= 256, n >= -8 && n <= 264, true)
		}
		for _, n := range append(extremes(), s.Gates-1, s.Gates, s.Gates+1) {
			try(0, good, n, true, true, true)
		}
		for _, x := range []struct {
			earth api.Span
			ok    bool
		}{
			{pt(1000000), true}, {pt(100000000), true}, {api.Span{Lo: 1000000, Hi: 100000000}, true},
			{pt(999999), false}, {pt(100000001), false}, {api.Span{Lo: 999999, Hi: 5000000}, false},
			{api.Span{Lo: 5000000, Hi: 100000001}, false}, {api.Span{Lo: 5000001, Hi: 5000000}, false}, {api.Span{}, false},
		} {
			try(0, x.earth, 0, true, true, x.ok)
		}
	}
}

// within reports whether what is exact lies in a span.
func within(exact *big.Rat, s api.Span) bool {
	return exact.Cmp(rat(s.Lo, 1)) >= 0 && exact.Cmp(rat(s.Hi, 1)) <= 0
}

// exactHeight is how high a gate is above a sphere of which the radius is known.
func exactHeight(s api.Site, tilt, radius, gate int) *big.Rat {
	c, sine := wantSlant(tilt)
	half := rat((2*gate+1)*s.Step, 2)
	far := times(half, c)
	return plus(rat(s.Z, 1), times(half, sine), times(far, far, rat(1, 2*radius)))
}

// P1.10, G1: what is true lies within the bounds, and closer bounds within wider ones.
func TestHeightBounds(t *testing.T) {
	n := &noise{}
	for _, s := range sites() {
		for range 300 {
			outer := n.span(api.Span{Lo: beam.MinEarth, Hi: beam.MaxEarth})
			inner := n.span(outer)
			tilt, gate := n.upTo(api.MaxTilt), n.upTo(s.Gates-1)
			wide, _ := beam.Band(s, tilt, outer, gate)
			tight, e := beam.Band(s, tilt, inner, gate)
			if e != api.OK || !isWithin(tight, wide) {
				t.Fatalf("band of %s: %v, in %v", s.Name, tight, wide)
			}
			for thread := tilt - s.Width; thread <= tilt+s.Width; thread++ {
				h, _ := beam.Height(s, thread, inner, gate)
				if higher, e := beam.Height(s, thread, outer, gate); e != api.OK || !isWithin(h, higher) {
					t.Fatalf("height of %s: %v, in %v", s.Name, h, higher)
				}
				if h.Hi < tight.Lo || h.Lo > tight.Hi {
					t.Fatalf("height %v outside of the band %v", h, tight)
				}
				truth := exactHeight(s, thread, inner.Lo+n.upTo(inner.Hi-inner.Lo), gate)
				if !within(truth, h) || !within(truth, tight) {
					t.Fatalf("true height %v outside of %v or %v", truth, h, tight)
				}
			}
		}
	}
}

// G1: the ground range lies within its span.
func TestGroundBounds(t *testing.T) {
	for _, s := range sites() {
		for _, tilt := range tilts() {
			c, _ := wantSlant(tilt)
			for _, j := range gatesToTry(s) {
				g, _ := beam.Ground(s, tilt, j)
				if !within(times(rat((2*j+1)*s.Step, 2), c), g) || g.Hi-g.Lo > 1 {
					t.Fatalf("ground range of %s, %d, %d: %v", s.Name, tilt, j, g)
				}
			}
		}
	}
}
