package beam

import "radome/api"

// rounding is how a quotient with a positive divisor becomes an integer.
type rounding func(num, den int) int

// roundings returns how a quotient is rounded down, and how it is rounded up.
func roundings() (down, up rounding) {
	down = func(num, den int) int {
		quotient := num / den
		if num%den < 0 {
			quotient--
		}
		return quotient
	}
	up = func(num, den int) int { return -down(-num, den) }
	return down, up
}

// Ground returns the ground range of a gate; ErrRange if the tilt is not one
// of the site, or if there is no such gate.
func Ground(s api.Site, tilt, gate int) (api.Span, api.Errno) {
	if e := CheckSite(s); e != api.OK {
		return api.Span{}, e
	}
	if !isTilt(tilt) || !isGate(s, gate) {
		return api.Span{}, api.ErrRange
	}
	down, up := roundings()
	return api.Span{Lo: run(s, tilt, gate, down), Hi: run(s, tilt, gate, up)}, api.OK
}

// Height returns the height of a gate; ErrRange if the tilt has no slant, if
// the earth is not valid, or if there is no such gate.
func Height(s api.Site, tilt int, earth api.Span, gate int) (api.Span, api.Errno) {
	if e := CheckSite(s); e != api.OK {
		return api.Span{}, e
	}
	if !isSlanted(tilt) || !isEarth(earth) || !isGate(s, gate) {
		return api.Span{}, api.ErrRange
	}
	return height(s, tilt, earth, gate), api.OK
}

// Band returns the heights between which the beam is at a gate; ErrRange if
// the tilt is not one of the site, if the earth is not valid, or if there is
// no such gate.
func Band(s api.Site, tilt int, earth api.Span, gate int) (api.Span, api.Errno) {
	if e := CheckSite(s); e != api.OK {
		return api.Span{}, e
	}
	if !isTilt(tilt) || !isEarth(earth) || !isGate(s, gate) {
		return api.Span{}, api.ErrRange
	}
	lowest := height(s, tilt-s.Width, earth, gate)
	highest := height(s, tilt+s.Width, earth, gate)
	return api.Span{Lo: lowest.Lo, Hi: highest.Hi}, api.OK
}

// run returns one end of the ground range of a gate.
func run(s api.Site, tilt, gate int, round rounding) int {
	c, _, d := slant(tilt)
	return round((2*gate+1)*s.Step*c, 2*d)
}

// climb returns one end of the height of a gate above a sphere with a radius.
func climb(s api.Site, tilt, gate, radius int, round rounding) int {
	_, sine, d := slant(tilt)
	far := run(s, tilt, gate, round)
	return s.Z + round((2*gate+1)*s.Step*sine, 2*d) + round(far*far, 2*radius)
}

// height returns the height of a gate. The larger the sphere, the less the
// ground falls away below a ray.
func height(s api.Site, tilt int, earth api.Span, gate int) api.Span {
	down, up := roundings()
	return api.Span{
		Lo: climb(s, tilt, gate, earth.Hi, down),
		Hi: climb(s, tilt, gate, earth.Lo, up),
	}
}

func isGate(s api.Site, gate int) bool { return isIn(gate, 0, s.Gates-1) }
