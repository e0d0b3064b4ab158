package beam

import "radome/api"

// Blocked returns for each gate of a ray how many threads of its beam are
// blocked there: at least, and at most. It returns ErrRange if the field is
// none of ground, if the tilt is not one of the site, if the earth is not
// valid, or if there is no such ray.
func Blocked(s api.Site, tilt int, earth api.Span, ground api.Field, ray int) ([]api.Span, api.Errno) {
	if e := CheckSite(s); e != api.OK {
		return nil, e
	}
	if e := checkGround(ground); e != api.OK {
		return nil, e
	}
	if !isTilt(tilt) || !isEarth(earth) || !isRay(s, ray) {
		return nil, api.ErrRange
	}
	return sums(met(s, tilt, earth, groundBelow(s, tilt, ground, ray))), api.OK
}

// groundBelow returns the ground at the places of all gates of a ray.
func groundBelow(s api.Site, tilt int, ground api.Field, ray int) []api.Span {
	l := make([]api.Span, s.Gates)
	for gate, at := range gates(s, tilt, ray) {
		l[gate] = unknownGround()
		if n, ok := pixel(ground.Grid, at); ok {
			l[gate] = ground.Vals[n]
		}
	}
	return l
}

// met returns for each gate how many threads meet the ground there first: Lo
// counts those that surely do, Hi those that perhaps do.
func met(s api.Site, tilt int, earth api.Span, ground []api.Span) []api.Span {
	l := make([]api.Span, len(ground))
threads:
	for thread := tilt - s.Width; thread <= tilt+s.Width; thread++ {
		doubtful := false
		for gate, land := range ground {
			air := height(s, thread, earth, gate)
			if land.Hi >= air.Lo && !doubtful {
				doubtful = true
				l[gate].Hi++
			}
			// What is surely in the way is perhaps in the way too, so that
			// nothing is left to be counted behind it.
			if land.Lo >= air.Hi {
				l[gate].Lo++
				continue threads
			}
		}
	}
	return l
}

// sums adds to each span all those before it: a thread that is blocked stays
// blocked.
func sums(l []api.Span) []api.Span {
	for i := 1; i < len(l); i++ {
		l[i].Lo += l[i-1].Lo
		l[i].Hi += l[i-1].Hi
	}
	return l
}
