package cast

import (
	"radome/api"
	"radome/beam"
)

// CheckFlow returns ErrRange if a rush of a flow is not valid.
func CheckFlow(f Flow) api.Errno {
	if !isWithin(f.X, MaxRush) || !isWithin(f.Y, MaxRush) {
		return api.ErrRange
	}
	return api.OK
}

// CheckCloud returns the error of a grid, that of the flow of a cloud on it,
// ErrRange if it cannot grow like this, and the error of its pixels.
func CheckCloud(g api.Grid, c Cloud) api.Errno {
	if e := beam.CheckGrid(g); e != api.OK {
		return e
	}
	if e := CheckFlow(c.Flow); e != api.OK {
		return e
	}
	if !isIn(c.Grow, 0, MaxGrow) {
		return api.ErrRange
	}
	if e := checkMay(g, c.May); e != api.OK {
		return e
	}
	return checkSure(c.Sure, setOf(c.May))
}

// checkMay returns ErrEmpty if there are no pixels, ErrNone if one does not
// exist, and ErrOrder if one is not greater than the one before it.
func checkMay(g api.Grid, l []int) api.Errno {
	if len(l) == 0 {
		return api.ErrEmpty
	}
	for i, pixel := range l {
		if !hasPixel(g, pixel) {
			return api.ErrNone
		}
		if !isAscending(l, i) {
			return api.ErrOrder
		}
	}
	return api.OK
}

// checkSure returns ErrOrder if a pixel is not greater than the one before it,
// and ErrShape if one is not covered at most.
func checkSure(l []int, may map[int]bool) api.Errno {
	for i, pixel := range l {
		if !isAscending(l, i) {
			return api.ErrOrder
		}
		if !may[pixel] {
			return api.ErrShape
		}
	}
	return api.OK
}

// checkFlows returns ErrEmpty if there are no flows, ErrMany if there are too
// many, and the error of the first one that has one.
func checkFlows(l []Flow) api.Errno {
	if len(l) == 0 {
		return api.ErrEmpty
	}
	if len(l) > MaxFlows {
		return api.ErrMany
	}
	for _, f := range l {
		if e := CheckFlow(f); e != api.OK {
			return e
		}
	}
	return api.OK
}

// checkClouds returns the error of a grid, ErrMany if there are too many clouds,
// the error of the first one that has one, and that of a lead.
func checkClouds(g api.Grid, l []Cloud, lead int) api.Errno {
	if e := beam.CheckGrid(g); e != api.OK {
		return e
	}
	if len(l) > MaxClouds {
		return api.ErrMany
	}
	for _, c := range l {
		if e := CheckCloud(g, c); e != api.OK {
			return e
		}
	}
	return checkLead(lead)
}

func checkLead(lead int) api.Errno {
	if !isIn(lead, 0, MaxLead) {
		return api.ErrRange
	}
	return api.OK
}

func isIn(n, least, most int) bool { return least <= n && n <= most }

// isWithin reports whether a span is valid, and within minus a number to this
// number.
func isWithin(s api.Span, most int) bool { return -most <= s.Lo && s.Lo <= s.Hi && s.Hi <= most }

func hasPixel(g api.Grid, pixel int) bool { return isIn(pixel, 0, g.Wide*g.High-1) }

// isAscending reports whether an element of a list is greater than the one
// before it.
func isAscending(l []int, i int) bool { return i == 0 || l[i] > l[i-1] }

// setOf returns a map that can be asked which elements a list has.
func setOf(l []int) map[int]bool {
	set := make(map[int]bool, len(l))
	for _, n := range l {
		set[n] = true
	}
	return set
}
