package wind_test

import (
	"fmt"
	"testing"

	"radome/api"
	"radome/wind"
)

// P10.3: a wind agrees with sights if what it has along them lies in their spans.
func TestAgree(t *testing.T) {
	for _, x := range []struct {
		what string
		l    []wind.Sight
		u, v int
		want bool
	}{
		{"no sights", nil, 0, 0, true},
		{"no sights, the greatest wind", nil, maxWind, -maxWind, true},
		{"at the lower end", list(sightA()), 5000, 9, true},
		{"below the lower end", list(sightA()), 4999, 9, false},
		{"at the upper end", list(sightA()), 6000, 9, true},
		{"above the upper end", list(sightA()), 6001, 9, false},
		{"just at the lower end, which is no whole wind", list(sight(4, 3, 5, 4000, 4000)), 5000, 0, true},
		{"a little less", list(sight(4, 3, 5, 4000, 4000)), 4999, 1, false},
		{"a fifth below", list(sight(4, 3, 5, 0, 0)), 1, -1, false},
		{"a fifth above", list(sight(4, 3, 5, 0, 0)), -1, 1, false},
		{"with two", list(sightA(), sightB()), 5500, 0, true},
		{"with the first only", list(sightA(), sightB()), 5500, 1, false},
		{"with the second only", list(sightA(), sightB()), 4500, 0, false},
		{"the greatest wind along the greatest length", list(sight(38880, 51840, maxLength, 168000, 168000)), maxWind, maxWind, true},
		{"a little less than it", list(sight(38880, 51840, maxLength, 168000, 168000)), maxWind, maxWind - 1, false},
		{"the least wind along it", list(sight(38880, 51840, maxLength, -168000, -168000)), -maxWind, -maxWind, true},
		{"in conflict", list(sightA(), sight(1, 0, 1, 0, 1)), 5000, 0, false},
	} {
		wantSame(t, x.what, agrees(t, x.l, x.u, x.v), x.want)
	}
}

// P10.3: the errors of Agree and of Along behind that of the list.
func TestAgreeErrors(t *testing.T) {
	for _, l := range [][]wind.Sight{nil, list(sightA()), list(sightA(), sight(-1, 0, 1, 0, 0))} {
		wantRange(t, "u", -maxWind, maxWind, func(n int) api.Errno { _, e := wind.Agree(l, n, 0); return e })
		wantRange(t, "v", -maxWind, maxWind, func(n int) api.Errno { _, e := wind.Agree(l, 0, n); return e })
		for _, bad := range badSights() {
			if wind.Check(wind.Sight{X: bad.X, Y: bad.Y, L: bad.L}) == api.OK {
				continue // only its span is not valid
			}
			s, e := wind.Along(l, bad.X, bad.Y, bad.L)
			wantErr(t, fmt.Sprintf("Along %+v", bad), e, api.ErrRange)
			wantSame(t, fmt.Sprintf("Along %+v", bad), s, api.Span{})
		}
	}
}

// P10.3: bounds that are worked out by hand.
func TestBounds(t *testing.T) {
	all := span(-maxWind, maxWind)
	zero := span(0, 0)
	for _, x := range []struct {
		what string
		l    []wind.Sight
		u, v api.Span
	}{
		{"no sights", nil, all, all},
		{"a sight of all winds", list(sight(3, 4, 5, -168000, 168000)), all, all},
		{"all speeds", list(sight(3, 4, 5, -maxAlong, maxAlong)), all, all},
		{"one sight", list(sightA()), span(5000, 6000), all},
		{"the other axis", list(sight(0, -1, 1, -7, 9)), all, span(-9, 7)},
		{"two at right angles", list(sight(4, 3, 5, 0, 0), sight(-3, 4, 5, 0, 0)), zero, zero},
		{"the same sight twice", list(sightA(), sightA()), span(5000, 6000), all},
		{"the same axis", list(sightA(), sight(1, 0, 1, 5500, 7000)), span(5500, 6000), all},
		{"the same axis of another length", list(sightA(), sight(900, 0, 900, 5500, 7000)), span(5500, 6000), all},
		{"the opposite one", list(sightA(), sight(-1, 0, 1, -5200, -10)), span(5000, 5200), all},
		{"the same axis, one wind of it in common", list(sightA(), sight(1, 0, 1, 6000, 7000)), span(6000, 6000), all},
		{"the opposite one, one wind of it in common", list(sightA(), sight(-7, 0, 7, -5000, 0)), span(5000, 5000), all},
		{"a line of winds", list(sight(4, 3, 5, 0, 0)), span(-90000, 90000), all},
		{"a line of winds, thrice", list(sight(4, 3, 5, 0, 0), sight(-4, -3, 5, 0, 0), sight(8, 6, 10, 0, 0)), span(-90000, 90000), all},
		{"a part of a line", list(sight(4, 3, 5, 0, 0), sight(0, 1, 1, -100, 200)), span(-150, 75), span(-100, 200)},
		{"a part of a line, rounded", list(sight(4, 3, 5, 0, 0), sight(0, 1, 1, -101, 201)), span(-151, 76), span(-101, 201)},
		{"one wind, three sights", list(sight(1, 0, 1, 30, 30), sight(0, 1, 1, 40, 40), sight(3, 4, 5, 50, 50)), span(30, 30), span(40, 40)},
		{"one wind, a corner of two only", list(sight(1, 0, 1, 30, 90), sight(0, 1, 1, 40, 90), sight(3, 4, 5, 0, 50)), span(30, 30), span(40, 40)},
		{"one wind, which is not whole", list(sight(4, 3, 5, 1, 1), sight(-3, 4, 5, 0, 0)), span(0, 1), span(0, 1)},              // 0.8, 0.6
		{"one wind, which is not whole, below 0", list(sight(4, 3, 5, -1, -1), sight(3, -4, 5, 0, 0)), span(-1, 0), span(-1, 0)}, // -0.8, -0.6
		{"at a corner of all winds", list(sight(3, 4, 5, 168000, 168000)), span(maxWind, maxWind), span(maxWind, maxWind)},
		{"at the opposite corner", list(sight(3, 4, 5, -maxAlong, -168000)), span(-maxWind, -maxWind), span(-maxWind, -maxWind)},
		{"near a corner", list(sight(3, 4, 5, 167999, maxAlong)), span(119998, maxWind), span(119998, maxWind)}, // 5/3 and 5/4 away
		{"at the border of all winds", list(sight(-1, 0, 1, maxWind, maxAlong)), span(-maxWind, -maxWind), all},
		{"great lengths", list(sight(38880, 51840, maxLength, 5, 5), sight(-51840, 38880, maxLength, 10, 10)), span(-5, -5), span(10, 10)},
		{"great lengths, nearly parallel", list(sight(64440, 359, 64441, 1, 1), sight(64080, 716, 64084, 0, 0)), span(1, 2), span(-179, -178)},
	} {
		wantSame(t, x.what, bounds(t, x.l), wind.Wind{U: x.u, V: x.v})
	}
}

// P10.3: sights in conflict.
func TestConflicts(t *testing.T) {
	for _, x := range []struct {
		what string
		l    []wind.Sight
	}{
		{"beyond MaxWind", list(sight(1, 0, 1, maxWind+1, maxAlong))},
		{"beyond MaxWind in the south", list(sight(0, 1, 1, -maxAlong, -maxWind-1))},
		{"beyond a corner of all winds", list(sight(3, 4, 5, 168001, 168001))},
		{"one wind beyond MaxWind", list(sight(0, 1, 1, 0, 0), sight(4, 3, 5, 96001, 96001))},
		{"the same axis", list(sightA(), sight(1, 0, 1, 6001, 7000))},
		{"the opposite one", list(sightA(), sight(-1, 0, 1, 0, 7000))},
		{"the same axis of another length", list(sightA(), sight(65, 0, 65, 0, 4999))},
		{"three", list(sightA(), sightB(), sightD())},
		{"three lines of winds", list(sight(1, 0, 1, 30, 30), sight(0, 1, 1, 40, 40), sight(3, 4, 5, 49, 49))},
		{"three, just", list(sight(1, 0, 1, 31, 90), sight(0, 1, 1, 40, 90), sight(3, 4, 5, 0, 50))},
		{"a wind and a line", list(sight(1, 0, 1, 30, 30), sight(0, 1, 1, 40, 40), sight(4, 3, 5, 49, 50))},
	} {
		w, e := wind.Bounds(x.l)
		wantErr(t, "Bounds, "+x.what, e, api.ErrConflict)
		wantSame(t, "Bounds, "+x.what, w, wind.Wind{})
		s, e := wind.Along(x.l, 3, 4, 5)
		wantErr(t, "Along, "+x.what, e, api.ErrConflict)
		wantSame(t, "Along, "+x.what, s, api.Span{})
	}
}

// P10.3: reaches that are worked out by hand.
func TestAlong(t *testing.T) {
	for _, x := range []struct {
		what string
		l    []wind.Sight
		d    direction
		want api.Span
	}{
		{"no sights", nil, direction{3, 4, 5}, span(-168000, 168000)},
		{"no sights", nil, direction{0, -1, 1}, span(-maxWind, maxWind)},
		{"no sights, rounded", nil, direction{12, 5, 13}, span(-156924, 156924)}, // 2,040,000 / 13
		{"one sight", list(sightA()), direction{1, 0, 1}, span(5000, 6000)},
		{"the opposite axis", list(sightA()), direction{-1, 0, 1}, span(-6000, -5000)},
		{"at right angles", list(sightA()), direction{0, 1, 1}, span(-maxWind, maxWind)},
		{"the same axis of another length", list(sightA()), direction{maxLength, 0, maxLength}, span(5000, 6000)},
		{"in another direction", list(sightA(), sightB()), direction{3, 4, 5}, span(2200, 3600)},
		{"in another direction, rounded", list(sight(1, 0, 1, 1, 2), sight(0, 1, 1, 0, 0)), direction{4, 3, 5}, span(0, 2)},
		{"in another direction, rounded, below 0", list(sight(1, 0, 1, -2, -1), sight(0, 1, 1, 0, 0)), direction{4, 3, 5}, span(-2, 0)},
		{"in the direction of a sight itself", list(sight(4, 3, 5, 4000, 4100)), direction{4, 3, 5}, span(4000, 4100)},
		{"in the opposite direction of a sight", list(sight(4, 3, 5, 4000, 4100)), direction{-8, -6, 10}, span(-4100, -4000)},
		{"one wind, which is not whole", list(sight(4, 3, 5, 1, 1), sight(-3, 4, 5, 0, 0)), direction{4, 3, 5}, span(1, 1)},
		{"one wind, which is not whole, turned", list(sight(4, 3, 5, 1, 1), sight(-3, 4, 5, 0, 0)), direction{3, -4, 5}, span(0, 0)},
		{"one wind, nearly turned", list(sight(4, 3, 5, 1, 1), sight(-3, 4, 5, 0, 0)), direction{-5, 12, 13}, span(0, 1)}, // (-4 + 7.2) / 13
	} {
		wantSame(t, x.what, along(t, x.l, x.d), x.want)
	}
}

// P10.3, P10.7: bounds, reaches, and conflicts, as the chapter defines them.
func TestReachByDefinition(t *testing.T) {
	conflicts, points := 0, 0
	for seed := range 2500 {
		n := &noise{state: uint64(2000 + seed)}
		l := n.any(n.of(1, 2, 3, 5, 8), n.of(1, 5, 100, 1000))
		points += checkReach(t, n, l, 100)
		if !wantAgree(l) {
			conflicts++
		}
	}
	if conflicts < 300 || points < 300 {
		t.Errorf("%d conflicts, %d points", conflicts, points)
	}
}

// P10.3, P10.7: the same with the greatest lengths.
func TestGreatReachByDefinition(t *testing.T) {
	points := 0
	for seed := range 400 {
		n := &noise{state: uint64(5000 + seed)}
		points += checkReach(t, n, n.any(n.of(1, 2, 3, 5), maxLength), maxLength)
	}
	if points < 30 {
		t.Errorf("%d points", points)
	}
}

// checkReach compares the reach of sights with what is wanted, and returns how
// often it is a point.
func checkReach(t *testing.T, n *noise, l []wind.Sight, length int) (points int) {
	t.Helper()
	what := fmt.Sprintf("%+v", l)
	ok := wantAgree(l)
	wantSame(t, "a conflict of "+what, isConflict(t, l), !ok)
	if !ok {
		return 0
	}
	w := bounds(t, l)
	wantSame(t, "U of "+what, w.U, wantReach(l, direction{1, 0, 1}))
	wantSame(t, "V of "+what, w.V, wantReach(l, direction{0, 1, 1}))
	d := n.direction(length)
	s := along(t, l, d)
	wantSame(t, fmt.Sprint("Along ", d, " of ", what), s, wantReach(l, d))
	if s.Lo == s.Hi {
		points++
	}
	return points
}

// P10.3: many sights of one wind leave it, and no more than it has to be; they
// are cut from all sides.
func TestManySights(t *testing.T) {
	for _, length := range []int{5, 1000, maxLength} {
		n := &noise{state: uint64(length)}
		l := n.sights(360, 0, length, 4321, -1234, 40, 0)
		wantSame(t, "the wind agrees", agrees(t, l, 4321, -1234), true)
		w := bounds(t, l)
		if w.U.Lo > 4321 || w.U.Hi < 4321 || w.V.Lo > -1234 || w.V.Hi < -1234 || w.U.Hi-w.U.Lo > 20 || w.V.Hi-w.V.Lo > 20 {
			t.Errorf("bounds: %v", w)
		}
	}
	// Two times 180 sights on the border of a circle, nearly: a set with 360 edges.
	var l []wind.Sight
	for direction := range 360 {
		x := look(t, site(90), 0, direction, span(-maxSpeed, 100000), span(0, 0))
		l = append(l, x)
	}
	w := bounds(t, l)
	wantSame(t, "a circle", w, wind.Wind{U: span(-100004, 100004), V: span(-100004, 100004)})
	for direction := range 360 {
		s := along(t, l, directionOf(l[direction]))
		wantSame(t, fmt.Sprint("a circle along ", direction), s.Hi, 100000)
	}
}

func directionOf(x wind.Sight) direction { return direction{x.X, x.Y, x.L} }

// P10.4: strains that are worked out by hand.
func TestStrain(t *testing.T) {
	for _, x := range []struct {
		what string
		l    []wind.Sight
		want int
	}{
		{"no sights", nil, 0},
		{"sights that agree", list(sightA(), sightB(), sightC()), 0},
		{"sights that agree in one wind only", list(sightA(), sight(1, 0, 1, 6000, 7000)), 0},
		{"an odd gap", list(sightA(), sight(1, 0, 1, 6001, 7000)), 1},
		{"an even gap", list(sightA(), sight(1, 0, 1, 6002, 7000)), 1},
		{"a gap of three", list(sightA(), sight(1, 0, 1, 6003, 7000)), 2},
		{"the opposite axis", list(sightA(), sight(-1, 0, 1, 100, 200)), 2550},
		{"three", list(sightA(), sightB(), sightD()), 2250},
		{"beyond MaxWind", list(sight(1, 0, 1, maxWind+1, maxAlong)), 1},
		{"beyond MaxWind, as far as can be", list(sight(1, 0, 1, maxAlong, maxAlong)), maxAlong - maxWind},
		{"beyond a corner", list(sight(3, 4, 5, maxAlong, maxAlong)), maxAlong - 168000},
		{"the greatest one", list(sight(1, 0, 1, maxAlong, maxAlong), sight(1, 0, 1, -maxAlong, -maxAlong)), maxAlong},
		{"the greatest one of opposite axes", list(sight(3, 4, 5, maxAlong, maxAlong), sight(-3, -4, 5, maxAlong, maxAlong)), maxAlong},
		{"one less", list(sight(1, 0, 1, maxAlong-1, maxAlong), sight(-1, 0, 1, maxAlong-1, maxAlong)), maxAlong - 1},
	} {
		wantSame(t, x.what, strain(t, x.l), x.want)
	}
}

// P10.4, P10.9: strains as the chapter defines them.
func TestStrainByDefinition(t *testing.T) {
	strained := 0
	for seed := range 500 {
		n := &noise{state: uint64(6000 + seed)}
		l := n.any(n.of(2, 3, 5), n.of(5, 100, 1000))
		got := strain(t, l)
		wantSame(t, fmt.Sprintf("the strain of %+v", l), got, wantStrain(l))
		if got > 0 {
			strained++
		}
	}
	if strained < 150 {
		t.Errorf("%d are strained", strained)
	}
}
