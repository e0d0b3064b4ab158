package mosaic

import (
	"slices"

	"radome/api"
	"radome/beam"
	"radome/rain"
)

// Check returns the error of a network: that of its grid, ErrRange if its earth
// or its age is out of range, ErrEmpty if it has no radars, ErrMany if it has
// too many, or the error of a radar.
func Check(s Spec) api.Errno {
	if e := beam.CheckGrid(s.Grid); e != api.OK {
		return e
	}
	if !isWithin(s.Earth, api.Span{Lo: beam.MinEarth, Hi: beam.MaxEarth}) || !isIn(s.Age, 1, MaxAge) {
		return api.ErrRange
	}
	if len(s.Radars) == 0 {
		return api.ErrEmpty
	}
	if len(s.Radars) > MaxRadars {
		return api.ErrMany
	}
	for i, r := range s.Radars {
		if e := checkRadar(r, s.Radars[:i]); e != api.OK {
			return e
		}
	}
	return api.OK
}

// checkRadar returns the error of a radar behind earlier ones.
func checkRadar(r Radar, earlier []Radar) api.Errno {
	if e := beam.CheckSite(r.Site); e != api.OK {
		return e
	}
	if slices.ContainsFunc(earlier, isNamed(r.Site.Name)) {
		return api.ErrHave
	}
	if !isWithin(r.Offset, api.Span{Lo: -MaxOffset, Hi: MaxOffset}) {
		return api.ErrRange
	}
	return api.OK
}

// checkMessage returns the error of a message.
func (s Spec) checkMessage(m Message) api.Errno {
	if !slices.ContainsFunc(s.Radars, isNamed(m.Key.Name)) {
		return api.ErrNone
	}
	if !isIn(m.Key.Tilt, 0, api.MaxTilt) || !isTime(m.Key.Time) {
		return api.ErrRange
	}
	if len(m.Vals) != s.pixels() {
		return api.ErrShape
	}
	for _, v := range m.Vals {
		if !isWithin(v, anyRate()) {
			return api.ErrRange
		}
	}
	return api.OK
}

// pixels returns how many pixels the grid of a network has.
func (s Spec) pixels() int { return s.Grid.Wide * s.Grid.High }

// isSame reports whether two networks are equal.
func (s Spec) isSame(other Spec) bool {
	return s.Grid == other.Grid && s.Earth == other.Earth && s.Age == other.Age && slices.Equal(s.Radars, other.Radars)
}

// isNamed returns a function that reports whether a radar has a name.
func isNamed(name string) func(r Radar) bool {
	return func(r Radar) bool { return r.Site.Name == name }
}

// anyRate is all that is known of a rate that nobody sees.
func anyRate() api.Span { return api.Span{Lo: 0, Hi: rain.MaxRate} }

func isTime(n int) bool { return isIn(n, 0, api.MaxTime) }

// isWithin reports whether a span is valid, and within another one.
func isWithin(s, outer api.Span) bool {
	return outer.Lo <= s.Lo && s.Lo <= s.Hi && s.Hi <= outer.Hi
}

// hasCommon reports whether two spans have a number in common.
func hasCommon(a, b api.Span) bool { return a.Lo <= b.Hi && b.Lo <= a.Hi }

func isIn(n, least, most int) bool { return least <= n && n <= most }
