package wind

import (
	"radome/api"
	"radome/beam"
)

// Look returns the sight of a gate; the error of the site, or ErrRange if the
// tilt, the ray, the speed or the rise is out of its range.
func Look(s api.Site, tilt, ray int, speed, rise api.Span) (Sight, api.Errno) {
	if e := checkLook(s, tilt, rise); e != api.OK {
		return Sight{}, e
	}
	if !isIn(ray, 0, 4*s.Rose-1) || !isWithin(speed, api.MaxSpeed) {
		return Sight{}, api.ErrRange
	}
	x, y, length, e := beam.Direction(2*s.Rose, 2*ray+1)
	if e != api.OK {
		return Sight{}, e
	}
	along, e := level(tilt, speed, rise)
	if e != api.OK {
		return Sight{}, e
	}
	return Sight{X: x, Y: y, L: length, Speed: along}, api.OK
}

// checkLook returns the error of a site, and ErrRange if a tilt or a rise is out
// of its range.
func checkLook(s api.Site, tilt int, rise api.Span) api.Errno {
	if e := beam.CheckSite(s); e != api.OK {
		return e
	}
	if !isIn(tilt, 0, api.MaxTilt) || !isWithin(rise, MaxRise) {
		return api.ErrRange
	}
	return api.OK
}

// level returns how fast air goes over the ground, of which a speed along a
// tilt is seen, and which rises.
func level(tilt int, speed, rise api.Span) (api.Span, api.Errno) {
	c, s, d, e := beam.Slant(tilt)
	if e != api.OK {
		return api.Span{}, e
	}
	return api.Span{Lo: down(speed.Lo*d-rise.Hi*s, c), Hi: up(speed.Hi*d-rise.Lo*s, c)}, api.OK
}

// Ring returns the sights of some rays; the error of the site, ErrMany if there
// are too many rays, or the error of the first one that has one.
func Ring(s api.Site, tilt int, l []Ray, rise api.Span) ([]Sight, api.Errno) {
	if e := beam.CheckSite(s); e != api.OK {
		return nil, e
	}
	if len(l) > MaxSights {
		return nil, api.ErrMany
	}
	if e := checkLook(s, tilt, rise); e != api.OK {
		return nil, e
	}
	return seen(l, func(r Ray) (Sight, api.Errno) {
		return Look(s, tilt, r.Ray, r.Speed, rise)
	})
}

// Place returns what several radars see at a place; ErrMany if there are too
// many, or the error of the first one that has one.
func Place(l []Seen, x, y int) ([]Sight, api.Errno) {
	if len(l) > MaxSights {
		return nil, api.ErrMany
	}
	return seen(l, func(n Seen) (Sight, api.Errno) {
		ray, _, e := beam.Find(n.Site, n.Tilt, x, y)
		if e != api.OK {
			return Sight{}, e
		}
		return Look(n.Site, n.Tilt, ray, n.Speed, n.Rise)
	})
}

// seen returns the sights of all elements of a list, or the first error.
func seen[T any](l []T, look func(T) (Sight, api.Errno)) ([]Sight, api.Errno) {
	sights := make([]Sight, len(l))
	for i, n := range l {
		x, e := look(n)
		if e != api.OK {
			return nil, e
		}
		sights[i] = x
	}
	return sights, api.OK
}
