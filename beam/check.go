package beam

import "radome/api"

// Name reports whether a string is a name.
func Name(s string) bool {
	if len(s) < 1 || len(s) > api.MaxName || !isLetter(s[0]) {
		return false
	}
	for i := 1; i < len(s); i++ {
		if !isLetter(s[i]) && !isDigit(s[i]) && s[i] != '_' {
			return false
		}
	}
	return true
}

// CheckSite returns ErrName if the name of a site is none, and ErrRange if
// another one of its fields is out of its range.
func CheckSite(s api.Site) api.Errno {
	if !Name(s.Name) {
		return api.ErrName
	}
	placed := isCoordinate(s.X) && isCoordinate(s.Y) && isIn(s.Z, 0, api.MaxHeight)
	turns := isIn(s.Rose, 1, api.MaxRose) && isIn(s.Width, 0, api.MaxWidth)
	gated := isIn(s.Gates, 1, api.MaxGates) && isIn(s.Step, MinStep, api.MaxStep)
	if !placed || !turns || !gated {
		return api.ErrRange
	}
	return api.OK
}

// CheckGrid returns ErrRange if a field of a grid is out of its range.
func CheckGrid(g api.Grid) api.Errno {
	sized := isIn(g.Size, 1, api.MaxSize) && isIn(g.Wide, 1, api.MaxSide) && isIn(g.High, 1, api.MaxSide)
	if !isCoordinate(g.X) || !isCoordinate(g.Y) || !sized {
		return api.ErrRange
	}
	return api.OK
}

// CheckField returns the error of the grid of a field, ErrShape if it does
// not have one span for each pixel, and ErrRange if one of them is not valid
// or not within 0 to MaxPower.
func CheckField(f api.Field) api.Errno {
	if e := CheckGrid(f.Grid); e != api.OK {
		return e
	}
	if len(f.Vals) != f.Grid.Wide*f.Grid.High {
		return api.ErrShape
	}
	return checkSpans(f.Vals, api.Span{Lo: 0, Hi: api.MaxPower})
}

// checkSpans returns ErrRange if a span is not valid, or not within another one.
func checkSpans(l []api.Span, outer api.Span) api.Errno {
	for _, s := range l {
		if !isWithin(s, outer) {
			return api.ErrRange
		}
	}
	return api.OK
}

// checkGround returns the error of a field of ground.
func checkGround(f api.Field) api.Errno {
	if e := CheckField(f); e != api.OK {
		return e
	}
	return checkSpans(f.Vals, unknownGround())
}

// unknownGround is all that is known of the ground where no field says more.
func unknownGround() api.Span { return api.Span{Lo: 0, Hi: api.MaxHeight} }

// isWithin reports whether a span is valid, and within another one.
func isWithin(s, outer api.Span) bool {
	return outer.Lo <= s.Lo && s.Lo <= s.Hi && s.Hi <= outer.Hi
}

func isEarth(s api.Span) bool { return isWithin(s, api.Span{Lo: MinEarth, Hi: MaxEarth}) }

func isTilt(n int) bool { return isIn(n, 0, api.MaxTilt) }

func isSlanted(n int) bool { return isIn(n, -api.MaxWidth, api.MaxTilt+api.MaxWidth) }

// isCoordinate reports whether a number may be one of a site or of a grid.
func isCoordinate(n int) bool { return isIn(n, -api.MaxPlace, api.MaxPlace) }

func isIn(n, least, most int) bool { return least <= n && n <= most }

func isLetter(c byte) bool { return 'a' <= c && c <= 'z' }

func isDigit(c byte) bool { return '0' <= c && c <= '9' }
