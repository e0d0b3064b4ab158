package wind_test

import (
	"fmt"
	"math"
	"testing"

	"radome/api"
	"radome/beam"
	"radome/wind"
)

// P10.1: the span of the sight of a gate is as the chapter defines it: its ends
// are compared with what they round, by products.
func TestLookByDefinition(t *testing.T) {
	rounded := 0
	for seed := range 3000 {
		n := &noise{state: uint64(100 + seed)}
		s := site(n.from(1, 90))
		tilt, ray := n.of(0, 1, maxTilt, n.upTo(maxTilt)), n.of(0, 4*s.Rose-1, n.upTo(4*s.Rose-1))
		speed := n.within(span(-n.of(10, 2000, maxSpeed), n.of(10, 2000, maxSpeed)))
		rise := n.within(span(-n.of(0, 10, maxRise), n.of(0, 10, maxRise)))
		x := look(t, s, tilt, ray, speed, rise)
		what := fmt.Sprint("Look of ", s.Rose, tilt, ray, speed, rise)

		ax, ay, length, _ := beam.Direction(2*s.Rose, 2*ray+1)
		wantSame(t, what+": the axis", direction{x.X, x.Y, x.L}, direction{ax, ay, length})
		c, sine, d, _ := beam.Slant(tilt)
		lo, hi := speed.Lo*d-rise.Hi*sine, speed.Hi*d-rise.Lo*sine
		if !(x.Speed.Lo*c <= lo && lo < (x.Speed.Lo+1)*c) || !((x.Speed.Hi-1)*c < hi && hi <= x.Speed.Hi*c) {
			t.Errorf("%s: %v, not from %d to %d, by %d", what, x.Speed, lo, hi, c)
		}
		wantErr(t, what+": Check", wind.Check(x), api.OK)
		if lo < 0 && lo%c != 0 && hi < 0 && hi%c != 0 {
			rounded++
		}
	}
	if rounded < 200 {
		t.Errorf("%d are below 0 and rounded", rounded)
	}
}

// P10.1: some gates that are worked out by hand.
func TestLook(t *testing.T) {
	one, two := site(1), site(2)
	for _, x := range []struct {
		what        string
		s           api.Site
		tilt, ray   int
		speed, rise api.Span
		want        wind.Sight
	}{
		{"the first ray", one, 0, 0, span(100, 200), span(0, 0), sight(4, 3, 5, 100, 200)},
		{"the last ray", one, 0, 3, span(100, 200), span(0, 0), sight(-3, 4, 5, 100, 200)},
		{"the last ray of the order 2", two, 0, 7, span(-7, -7), span(0, 0), sight(-7, 24, 25, -7, -7)},
		{"the second ray of the order 2", two, 0, 1, span(-7, 7), span(0, 0), sight(24, 7, 25, -7, 7)},
		{"level, whatever the rise", one, 0, 1, span(100, 200), span(-maxRise, maxRise), sight(3, -4, 5, 100, 200)},
		{"the greatest tilt", one, maxTilt, 0, span(300, 300), span(-30, 30), sight(4, 3, 5, 460, 540)}, // 5/3 of the speed, 4/3 of the rise
		{"a rise below 0", one, maxTilt, 0, span(300, 300), span(-30, -30), sight(4, 3, 5, 540, 540)},
		{"rounded", one, maxTilt, 0, span(1, 1), span(0, 0), sight(4, 3, 5, 1, 2)},
		{"rounded, below 0", one, maxTilt, 0, span(-1, -1), span(0, 0), sight(4, 3, 5, -2, -1)},
		{"rounded, of a rise", one, maxTilt, 0, span(0, 0), span(1, 1), sight(4, 3, 5, -2, -1)},
		{"rounded, of a rise below 0", one, maxTilt, 0, span(0, 0), span(-1, -1), sight(4, 3, 5, 1, 2)},
		{"the greatest speed", one, maxTilt, 0, span(maxSpeed, maxSpeed), span(-maxRise, -maxRise), sight(4, 3, 5, maxAlong, maxAlong)},
		{"the least speed", one, maxTilt, 0, span(-maxSpeed, -maxSpeed), span(maxRise, maxRise), sight(4, 3, 5, -maxAlong, -maxAlong)},
		{"all speeds", one, maxTilt, 0, span(-maxSpeed, maxSpeed), span(-maxRise, maxRise), sight(4, 3, 5, -maxAlong, maxAlong)},
	} {
		wantSame(t, x.what, look(t, x.s, x.tilt, x.ray, x.speed, x.rise), x.want)
	}
	x := look(t, site(90), 0, 89, span(0, 0), span(0, 0))
	wantSame(t, "the last ray before east, order 90", x, sight(64440, 359, 64441, 0, 0))
}

// P10.1: the errors of Look; that of the site comes first.
func TestLookErrors(t *testing.T) {
	s, zero := site(2), span(0, 0)
	call := func(s api.Site, tilt, ray int, speed, rise api.Span, want api.Errno) {
		t.Helper()
		x, e := wind.Look(s, tilt, ray, speed, rise)
		wantErr(t, fmt.Sprint("Look of ", s, tilt, ray, speed, rise), e, want)
		if e != api.OK {
			wantSame(t, "the sight", x, wind.Sight{})
		}
	}
	for _, bad := range badSites() {
		call(bad.s, 0, 0, zero, zero, bad.e)
		call(bad.s, -1, -1, span(1, 0), span(1, 0), bad.e)
	}
	wantRange(t, "tilt", 0, maxTilt, func(n int) api.Errno { _, e := wind.Look(s, n, 0, zero, zero); return e })
	wantRange(t, "ray", 0, 7, func(n int) api.Errno { _, e := wind.Look(s, 0, n, zero, zero); return e })
	wantRange(t, "ray, order 90", 0, 359, func(n int) api.Errno { _, e := wind.Look(site(90), 0, n, zero, zero); return e })
	wantRange(t, "speed", -maxSpeed, maxSpeed, func(n int) api.Errno { _, e := wind.Look(s, 9, 0, span(n, n), zero); return e })
	wantRange(t, "rise", -maxRise, maxRise, func(n int) api.Errno { _, e := wind.Look(s, 9, 0, zero, span(n, n)); return e })
	for _, bad := range badSpans(maxSpeed) {
		call(s, 0, 0, bad, zero, api.ErrRange)
	}
	for _, bad := range badSpans(maxRise) {
		call(s, 0, 0, zero, bad, api.ErrRange)
	}
}

// P10.2: a ring has the sights of all its rays, in their order.
func TestRing(t *testing.T) {
	for seed := range 200 {
		n := &noise{state: uint64(500 + seed)}
		s, tilt, rise := site(n.from(1, 90)), n.upTo(maxTilt), n.within(span(-maxRise, maxRise))
		var rays []wind.Ray
		var want []wind.Sight
		for range n.of(0, 1, 2, n.upTo(40), 360) {
			r := wind.Ray{Ray: n.upTo(4*s.Rose - 1), Speed: n.within(span(-maxSpeed, maxSpeed))}
			rays = append(rays, r)
			want = append(want, look(t, s, tilt, r.Ray, r.Speed, rise))
		}
		l, e := wind.Ring(s, tilt, rays, rise)
		wantErr(t, "Ring", e, api.OK)
		wantSame(t, fmt.Sprint("Ring of ", rays), l, want)
	}
}

// P10.2: the errors of Ring come in their order; there are some without rays.
func TestRingErrors(t *testing.T) {
	s, zero := site(2), span(0, 0)
	good := wind.Ray{Ray: 7, Speed: span(-5, 5)}
	call := func(what string, s api.Site, tilt int, rise api.Span, want api.Errno, rays ...wind.Ray) {
		t.Helper()
		l, e := wind.Ring(s, tilt, rays, rise)
		wantErr(t, what, e, want)
		if e != api.OK {
			wantSame(t, "the sights of "+what, l, []wind.Sight{})
		}
	}
	many := make([]wind.Ray, 361)
	for name, bad := range badSites() {
		call(name, bad.s, 0, zero, bad.e)
		call(name+", too many rays", bad.s, -1, span(1, 0), bad.e, many...)
	}
	call("360 rays", s, 0, zero, api.OK, many[:360]...)
	call("too many rays", s, 0, zero, api.ErrMany, many...)
	call("too many rays of no tilt", s, -1, span(1, 0), api.ErrMany, many...)
	for _, tilt := range []int{-1, maxTilt + 1, math.MinInt, math.MaxInt} {
		call("no tilt, and no rays", s, tilt, zero, api.ErrRange)
		call("no tilt", s, tilt, zero, api.ErrRange, good)
	}
	for _, rise := range badSpans(maxRise) {
		call("no rise, and no rays", s, 0, rise, api.ErrRange)
		call("no rise", s, 0, rise, api.ErrRange, good)
	}
	for _, ray := range []int{-1, 8, math.MinInt, math.MaxInt} {
		call("no ray", s, 0, zero, api.ErrRange, wind.Ray{Ray: ray})
		call("no ray behind others", s, 0, zero, api.ErrRange, good, good, wind.Ray{Ray: ray})
		call("no ray before others", s, 0, zero, api.ErrRange, wind.Ray{Ray: ray}, good)
	}
	for _, speed := range badSpans(maxSpeed) {
		call("no speed", s, 0, zero, api.ErrRange, wind.Ray{Speed: speed})
		call("no speed behind others", s, 0, zero, api.ErrRange, good, wind.Ray{Speed: speed}, good)
	}
	call("no rays", s, maxTilt, span(-maxRise, maxRise), api.OK)
	call("no rays, of a rise that is a point", s, 0, span(-maxRise, -maxRise), api.OK)
}

// P10.2: what several radars see at a place: at the site of one, in a ray of
// others, and on both sides of a border between rays.
func TestPlace(t *testing.T) {
	one, two, three := site(1), site(2), site(2)
	two.X, two.Y = 1000, -1000
	three.X = -500
	zero := span(0, 0)
	for _, x := range []struct {
		what string
		l    []wind.Seen
		x, y int
		want []wind.Sight
	}{
		{"no radars", nil, math.MinInt, math.MaxInt, nil},
		{"at the site", list1(one, 0, span(3, 4)), 0, 0, list(sight(4, 3, 5, 3, 4))},
		{"in the north", list1(one, 0, span(3, 4)), 0, 7, list(sight(4, 3, 5, 3, 4))},
		{"west of north", list1(one, 0, span(3, 4)), -1, 700, list(sight(-3, 4, 5, 3, 4))},
		{"in the east", list1(one, 0, span(3, 4)), 3999, 0, list(sight(3, -4, 5, 3, 4))},
		{"in the last gate, of the greatest tilt", list1(one, maxTilt, span(3, 3)), -2399, 0, list(sight(-3, 4, 5, 5, 5))},
		{"three radars", []wind.Seen{{one, 0, span(1, 2), zero}, {two, 0, span(3, 4), zero}, {three, maxTilt, span(3, 6), span(3, 3)}}, 0, 0, list(
			sight(4, 3, 5, 1, 2), sight(-15, 8, 17, 3, 4), sight(15, -8, 17, 1, 6))},
		{"one radar twice", []wind.Seen{{one, 0, span(1, 2), zero}, {one, 0, span(-3, 4), zero}}, 1, 2, list(sight(4, 3, 5, 1, 2), sight(4, 3, 5, -3, 4))},
	} {
		l, e := wind.Place(x.l, x.x, x.y)
		wantErr(t, x.what, e, api.OK)
		wantSame(t, x.what, l, x.want)
	}
}

func list1(s api.Site, tilt int, speed api.Span) []wind.Seen {
	return []wind.Seen{{Site: s, Tilt: tilt, Speed: speed}}
}

// P10.2: Place has the sights of the rays that beam finds.
func TestPlaceByDefinition(t *testing.T) {
	found := 0
	for seed := range 500 {
		n := &noise{state: uint64(900 + seed)}
		x, y := n.from(-3000, 3000), n.from(-3000, 3000)
		var l []wind.Seen
		var want []wind.Sight
		wantE := api.OK
		for range n.upTo(4) {
			s := site(n.from(1, 90))
			s.X, s.Y = n.from(-1000, 1000), n.from(-1000, 1000)
			r := wind.Seen{Site: s, Tilt: n.upTo(maxTilt), Speed: n.within(span(-maxSpeed, maxSpeed)), Rise: n.within(span(-maxRise, maxRise))}
			l = append(l, r)
			if ray, _, e := beam.Find(s, r.Tilt, x, y); e == api.OK {
				want = append(want, look(t, s, r.Tilt, ray, r.Speed, r.Rise))
				found++
			} else {
				wantE = e
			}
		}
		if wantE != api.OK {
			want = nil
		}
		got, e := wind.Place(l, x, y)
		wantErr(t, fmt.Sprint("Place of ", l), e, wantE)
		wantSame(t, fmt.Sprint("Place of ", l), got, want)
	}
	if found < 500 {
		t.Errorf("%d found", found)
	}
}

// P10.2: the errors of Place: of the first element that has one, that of Find
// comes first.
func TestPlaceErrors(t *testing.T) {
	good := wind.Seen{Site: site(2)}
	call := func(what string, x, y int, want api.Errno, l ...wind.Seen) {
		t.Helper()
		got, e := wind.Place(l, x, y)
		wantErr(t, what, e, want)
		if e != api.OK {
			wantSame(t, "the sights of "+what, got, []wind.Sight{})
		}
	}
	change := func(changes ...func(r *wind.Seen)) wind.Seen {
		r := good
		for _, change := range changes {
			change(&r)
		}
		return r
	}
	badSpeed := func(r *wind.Seen) { r.Speed = span(1, 0) }
	badRise := func(r *wind.Seen) { r.Rise = span(0, maxRise+1) }
	many := make([]wind.Seen, 361)
	call("too many, none of which has a site", 0, 0, api.ErrMany, many...)
	call("360, none of which has a site", 0, 0, api.ErrName, many[:360]...)
	for i := range many {
		many[i] = good
	}
	call("too many", 0, 0, api.ErrMany, many...)
	call("too many, too far", 4000, 0, api.ErrMany, many...)
	call("360", 0, 0, api.OK, many[:360]...)
	for name, bad := range badSites() {
		r := change(badSpeed, badRise, func(r *wind.Seen) { r.Site, r.Tilt = bad.s, -1 })
		call(name, 1<<40, 0, bad.e, r)
		call(name+" behind others", 0, 0, bad.e, good, good, r)
	}
	for _, tilt := range []int{-1, maxTilt + 1, math.MinInt, math.MaxInt} {
		r := change(func(r *wind.Seen) { r.Tilt = tilt })
		call("no tilt", 0, 0, api.ErrRange, good, r)
		call("no tilt, too far", 4000, 0, api.ErrRange, r)
	}
	call("out of range", 4194305, 0, api.ErrRange, good)
	call("out of range", 0, -4194305, api.ErrRange, good)
	call("too far", 4194304, -4194304, api.ErrFar, good)
	call("too far", 4000, 0, api.ErrFar, good)
	call("near", 3999, 0, api.OK, good)
	call("too far, with no speed", 4000, 0, api.ErrFar, change(badSpeed))
	call("too far, with no rise", 0, -4000, api.ErrFar, change(badRise), good)
	call("no speed", 0, 1, api.ErrRange, good, change(badSpeed))
	call("no rise", 0, 1, api.ErrRange, good, change(badRise), good)
	far := change(func(r *wind.Seen) { r.Site.X = 5000 })
	call("the first element decides", 0, 0, api.ErrFar, good, far, change(badSpeed))
	call("the first element decides", 0, 0, api.ErrRange, good, change(badSpeed), far)
	for _, speed := range badSpans(maxSpeed) {
		call("no speed", 0, 1, api.ErrRange, change(func(r *wind.Seen) { r.Speed = speed }))
	}
	for _, rise := range badSpans(maxRise) {
		call("no rise", 0, 1, api.ErrRange, change(func(r *wind.Seen) { r.Rise = rise }))
	}
}
