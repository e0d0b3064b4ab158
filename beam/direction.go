package beam

import (
	"sort"

	"radome/api"
)

// vector is a vector to the east and to the north, in metres or without a unit.
type vector struct{ x, y int }

// Direction returns a direction of a rose as a vector, and its length;
// ErrRange if there is no such rose, or no such direction of it.
func Direction(rose, direction int) (x, y, length int, e api.Errno) {
	if !isIn(rose, 1, 2*api.MaxRose) || !isIn(direction, 0, 4*rose-1) {
		return 0, 0, 0, api.ErrRange
	}
	v, length := towards(rose, direction)
	return v.x, v.y, length, api.OK
}

// towards returns a direction of a rose, and its length.
func towards(rose, direction int) (vector, int) {
	k := direction % rose
	p, r := 2*rose*k, rose*rose-k*k
	quarters := [4]vector{{p, r}, {r, -p}, {-p, -r}, {-r, p}}
	return quarters[direction/rose], rose*rose + k*k
}

// Slant returns the cosine and the sine of a tilt, c / d and s / d; ErrRange
// if the tilt has no slant.
func Slant(tilt int) (c, s, d int, e api.Errno) {
	if !isSlanted(tilt) {
		return 0, 0, 0, api.ErrRange
	}
	c, s, d = slant(tilt)
	return c, s, d, api.OK
}

// slant returns the numerators of the cosine and of the sine of a tilt, and
// their denominator.
func slant(tilt int) (c, s, d int) {
	const base = 262144 // 512 times 512: a tilt is 512 times the tangent of half its angle
	return base - tilt*tilt, 1024 * tilt, base + tilt*tilt
}

// sector returns the ray in whose sector a place lies, as it is seen from the
// site; the place of the site itself counts as north.
func sector(rose int, v vector) int {
	if v == (vector{}) {
		return 0
	}
	quarter := 0
	// Turned back by quarters, the place comes to lie from north (included)
	// to east (excluded), where directions are in the order of their numbers.
	for v.x < 0 || v.y <= 0 {
		v = vector{-v.y, v.x}
		quarter++
	}
	beyond := sort.Search(rose, func(k int) bool {
		d, _ := towards(rose, k)
		return isBefore(v, d)
	})
	return quarter*rose + beyond - 1
}

// isBefore reports whether a vector lies before another one, clockwise, by
// less than half a turn.
func isBefore(v, w vector) bool { return w.y*v.x < w.x*v.y }
