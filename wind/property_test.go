package wind_test

import (
	"fmt"
	"testing"

	"radome/api"
	"radome/beam"
	"radome/wind"
)

// P10.6: a wind that agrees with all sights lies within what is said of them.
func TestTruth(t *testing.T) {
	for seed := range 600 {
		n := &noise{state: uint64(20000 + seed)}
		u, v := n.from(-maxWind, maxWind), n.of(-maxWind, maxWind, n.from(-100, 100))
		l := n.sights(n.of(1, 3, 10, 40), 0, n.of(1, 5, 1000, maxLength), u, v, n.of(0, 1, 50, maxWind), 0)
		what := fmt.Sprintf("the wind %d, %d, and %+v", u, v, l)
		wantSame(t, what, agrees(t, l, u, v), true)
		wantSame(t, what, strain(t, l), 0)
		w := bounds(t, l)
		if u < w.U.Lo || u > w.U.Hi || v < w.V.Lo || v > w.V.Hi {
			t.Errorf("%s: the bounds are %v", what, w)
		}
		for range 5 {
			d := n.direction(maxLength)
			s := along(t, l, d)
			if d.x*u+d.y*v < s.Lo*d.length || d.x*u+d.y*v > s.Hi*d.length {
				t.Errorf("%s: along %v it is %v", what, d, s)
			}
		}
	}
}

// P10.6: whatever the wind and the rise are in truth, the sights of rings and of
// places agree with it.
func TestTruthOfGates(t *testing.T) {
	for seed := range 600 {
		n := &noise{state: uint64(21000 + seed)}
		u, v, up := n.from(-maxWind, maxWind), n.from(-maxWind, maxWind), n.from(-maxRise, maxRise)
		s, tilt := site(n.from(1, 90)), n.of(0, maxTilt, n.upTo(maxTilt))
		rise := span(max(up-n.of(0, n.upTo(100)), -maxRise), min(up+n.of(0, n.upTo(100)), maxRise))
		var rays []wind.Ray
		for range n.from(1, 6) {
			ray := n.upTo(4*s.Rose - 1)
			x, y, length, _ := beam.Direction(2*s.Rose, 2*ray+1)
			c, sine, d, _ := beam.Slant(tilt)
			away := (u*x+v*y)*c + up*sine*length // in parts of length d
			lo, hi := below(away, length*d)-n.of(0, n.upTo(50)), above(away, length*d)+n.of(0, n.upTo(50))
			rays = append(rays, wind.Ray{Ray: ray, Speed: span(lo, hi)})
		}
		l, e := wind.Ring(s, tilt, rays, rise)
		wantErr(t, "Ring", e, api.OK)
		if !agrees(t, l, u, v) {
			t.Errorf("the wind %d, %d, %d does not agree with %+v of %v at %d", u, v, up, l, rays, tilt)
		}
	}
}

// P10.8: what is blamed is in conflict, and nothing less of it is.
func TestBlamed(t *testing.T) {
	sizes := [4]int{}
	for seed := range 600 {
		n := &noise{state: uint64(22000 + seed)}
		l := n.any(n.of(3, 10, 30), n.of(5, 1000, maxLength))
		set, e := wind.Blame(l)
		wantSame(t, fmt.Sprintf("whether %+v are in conflict", l), e == api.OK, isConflict(t, l))
		if e != api.OK {
			continue
		}
		sizes[len(set)]++ // there are at most three
		in, _ := split(l, set)
		wantSame(t, fmt.Sprintf("what is blamed of %+v", l), isConflict(t, in), true)
		for i := range in {
			_, others := split(in, []int{i})
			wantSame(t, fmt.Sprintf("what is blamed of %+v, without %d", l, i), isConflict(t, others), false)
		}
	}
	if min(sizes[1], sizes[2], sizes[3]) < 20 {
		t.Errorf("sizes: %v", sizes)
	}
}

// wider returns sights whose spans are wider at both ends, where this is valid.
func wider(l []wind.Sight, by int) []wind.Sight {
	var more []wind.Sight
	for _, x := range l {
		x.Speed = span(max(x.Speed.Lo-by, -maxAlong), min(x.Speed.Hi+by, maxAlong))
		more = append(more, x)
	}
	return more
}

// P10.9: sights agree if they are wider by the strain, and not if by less.
func TestStrained(t *testing.T) {
	strained := 0
	for seed := range 300 {
		n := &noise{state: uint64(23000 + seed)}
		l := n.any(n.of(3, 10, 30), n.of(5, 1000, maxLength))
		d := strain(t, l)
		what := fmt.Sprintf("%+v, strained by %d", l, d)
		wantSame(t, what, isConflict(t, wider(l, d)), false)
		if d == 0 {
			continue
		}
		strained++
		for _, less := range []int{d - 1, d / 2, n.upTo(d - 1), 0} {
			wantSame(t, what, isConflict(t, wider(l, less)), true)
		}
	}
	if strained < 100 {
		t.Errorf("%d are strained", strained)
	}
}

func isInside(s, outer api.Span) bool { return outer.Lo <= s.Lo && s.Hi <= outer.Hi }

// P10.10: more sights, or narrower ones, lead to bounds within the old ones.
func TestNarrower(t *testing.T) {
	compared := 0
	for seed := range 600 {
		n := &noise{state: uint64(24000 + seed)}
		l := n.any(n.of(1, 3, 10), n.of(5, 1000, maxLength))
		var narrow []wind.Sight
		for _, x := range l {
			x.Speed = n.within(x.Speed)
			narrow = append(narrow, x)
		}
		d := n.direction(1000)
		for _, less := range [][]wind.Sight{narrow, append(n.any(2, 1000), l...)} {
			if isConflict(t, less) {
				continue
			}
			compared++
			what := fmt.Sprintf("%+v, and %+v", l, less)
			w, in := bounds(t, l), bounds(t, less)
			if !isInside(in.U, w.U) || !isInside(in.V, w.V) {
				t.Errorf("%s: the bounds are %v and %v", what, w, in)
			}
			if s, in := along(t, l, d), along(t, less, d); !isInside(in, s) {
				t.Errorf("%s: the reaches are %v and %v", what, s, in)
			}
		}
	}
	if compared < 300 {
		t.Errorf("%d are compared", compared)
	}
}

// P10.10: the order of sights does not matter, nor does one that comes twice; if
// all directions are turned by a quarter, all answers are.
func TestOrderAndTurn(t *testing.T) {
	conflicts := 0
	for seed := range 500 {
		n := &noise{state: uint64(25000 + seed)}
		l := n.any(n.of(1, 3, 10), n.of(5, 1000, maxLength))
		mixed := append([]wind.Sight{}, l...)
		n.mix(mixed)
		twice := append(append([]wind.Sight{}, l...), l...)
		var turned []wind.Sight
		for _, x := range l {
			d := directionOf(x).turned()
			turned = append(turned, wind.Sight{X: d.x, Y: d.y, L: d.length, Speed: x.Speed})
		}
		what := fmt.Sprintf("%+v", l)
		for _, other := range [][]wind.Sight{mixed, twice, turned} {
			wantSame(t, "a conflict of "+what, isConflict(t, other), isConflict(t, l))
			wantSame(t, "the strain of "+what, strain(t, other), strain(t, l))
		}
		if isConflict(t, l) {
			conflicts++
			continue
		}
		d := n.direction(maxLength)
		w, s := bounds(t, l), along(t, l, d)
		for _, same := range [][]wind.Sight{mixed, twice} {
			wantSame(t, "the bounds of "+what, bounds(t, same), w)
			wantSame(t, "the reach of "+what, along(t, same, d), s)
		}
		wantSame(t, "the reach of "+what+", turned", along(t, turned, d.turned()), s)
		wantSame(t, "the bounds of "+what+", turned", bounds(t, turned), wind.Wind{U: w.V, V: span(-w.U.Hi, -w.U.Lo)})
	}
	if conflicts < 100 || conflicts > 400 {
		t.Errorf("%d conflicts", conflicts)
	}
}

// P10.11: if at most so many sights are wrong, Without finds what to leave out.
func TestOutliers(t *testing.T) {
	left := [3]int{}
	for seed := range 500 {
		n := &noise{state: uint64(26000 + seed)}
		wrong := n.upTo(2)
		u, v := n.from(-maxWind, maxWind), n.from(-maxWind, maxWind)
		l := n.sights(wrong+n.from(1, 30), wrong, n.of(5, 1000, maxLength), u, v, n.of(0, 5, 1000), n.of(100, maxWind))
		set, e := wind.Without(l, wrong)
		wantErr(t, fmt.Sprintf("Without of %+v and %d", l, wrong), e, api.OK)
		_, others := split(l, set)
		wantSame(t, fmt.Sprintf("what is left of %+v", l), isConflict(t, others), false)
		if len(set) > wrong {
			t.Errorf("%d are left out, of which %d are wrong", len(set), wrong)
		}
		left[len(set)]++
	}
	if min(left[1], left[2]) < 100 {
		t.Errorf("left out: %v", left)
	}
}

// P10.11: if sights are of one wind from a number to another one, and of another
// wind elsewhere, Front finds a front.
func TestFronts(t *testing.T) {
	found := 0
	for seed := range 500 {
		n := &noise{state: uint64(27000 + seed)}
		count := n.of(2, 5, 20, 64)
		from := n.of(0, n.upTo(count-1))
		to := n.of(count, n.from(from+1, count))
		slack := n.of(0, 5, 1000)
		outer := n.sights(count, 0, 1000, n.from(-maxWind, maxWind), n.from(-maxWind, maxWind), slack, 0)
		inner := n.sights(count, 0, 1000, n.from(-maxWind, maxWind), n.from(-maxWind, maxWind), slack, 0)
		l := append(append(append([]wind.Sight{}, outer[:from]...), inner[from:to]...), outer[to:]...)
		from, to, e := wind.Front(l)
		if e == api.ErrNone {
			wantSame(t, "a conflict", isConflict(t, l), false)
			continue
		}
		wantErr(t, fmt.Sprintf("Front of %+v", l), e, api.OK)
		found++
		others := append(append([]wind.Sight{}, l[:from]...), l[to:]...)
		wantSame(t, fmt.Sprintf("behind the front %d, %d of %+v", from, to, l), []bool{from < to, isConflict(t, l[from:to]), isConflict(t, others)}, []bool{true, false, false})
	}
	if found < 200 {
		t.Errorf("%d fronts", found)
	}
}
