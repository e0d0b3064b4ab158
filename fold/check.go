package fold

import "radome/api"

// checkSet returns ErrMany if a set has too many spans; and for its first span
// with an error, ErrRange if this is no span of speeds, and ErrOrder if it is
// not beyond the one before it.
func checkSet(s []api.Span) api.Errno {
	if len(s) > MaxSpans {
		return api.ErrMany
	}
	for i, x := range s {
		if !areSpeeds(x) {
			return api.ErrRange
		}
		if i > 0 && x.Lo <= s[i-1].Hi {
			return api.ErrOrder
		}
	}
	return api.OK
}

// checkRay returns ErrMany if a ray has too many gates, and the error of its
// first set with one.
func checkRay(sets [][]api.Span) api.Errno {
	if len(sets) > api.MaxGates {
		return api.ErrMany
	}
	for _, s := range sets {
		if e := checkSet(s); e != api.OK {
			return e
		}
	}
	return api.OK
}

// checkRays returns ErrMany if there are too many rays, ErrShape if they do
// not have the same number of gates, and the error of the first ray with one.
func checkRays(rays [][][]api.Span) api.Errno {
	if len(rays) > 4*api.MaxRose {
		return api.ErrMany
	}
	for _, sets := range rays {
		if len(sets) != len(rays[0]) {
			return api.ErrShape
		}
	}
	for _, sets := range rays {
		if e := checkRay(sets); e != api.OK {
			return e
		}
	}
	return api.OK
}

// checkLinks returns ErrRange if the jump or the bridge is out of its range.
func checkLinks(jump, bridge int) api.Errno {
	if !isIn(jump, 0, MaxJump) || !isIn(bridge, 1, MaxBridge) {
		return api.ErrRange
	}
	return api.OK
}

// checkBound returns ErrRange if there is no such bound of speeds.
func checkBound(most int) api.Errno {
	if !isIn(most, 1, api.MaxSpeed) {
		return api.ErrRange
	}
	return api.OK
}

// checkSums returns ErrRange if what trains with two windows bring back is out
// of range, or the number of gates that they bring it from.
func checkSums(a, b []api.Span, most int) api.Errno {
	for _, sums := range [][]api.Span{a, b} {
		if !isIn(len(sums), 1, api.MaxGates) {
			return api.ErrRange
		}
		for _, x := range sums {
			if !isWithin(x, api.Span{Lo: 0, Hi: api.MaxPower}) {
				return api.ErrRange
			}
		}
	}
	if !isIn(most, 1, MaxFar) {
		return api.ErrRange
	}
	return api.OK
}

func areSpeeds(x api.Span) bool {
	return isWithin(x, api.Span{Lo: -api.MaxSpeed, Hi: api.MaxSpeed})
}

// isWithin reports whether a span is valid, and within another one.
func isWithin(x, outer api.Span) bool {
	return outer.Lo <= x.Lo && x.Lo <= x.Hi && x.Hi <= outer.Hi
}

func isIn(n, least, most int) bool { return least <= n && n <= most }
