package wind

import "radome/api"

// Check returns ErrRange if a sight is not valid.
func Check(x Sight) api.Errno {
	if !isDirection(x.X, x.Y, x.L) || !isWithin(x.Speed, MaxAlong) {
		return api.ErrRange
	}
	return api.OK
}

// checkList returns ErrMany if there are too many sights, and ErrRange if one
// is not valid.
func checkList(l []Sight) api.Errno {
	if len(l) > MaxSights {
		return api.ErrMany
	}
	for _, x := range l {
		if e := Check(x); e != api.OK {
			return e
		}
	}
	return api.OK
}

// isDirection reports whether a vector is one of a valid sight, with its length.
func isDirection(x, y, length int) bool {
	// Both parts are compared with the length first: the square of what is not
	// longer does not wrap around.
	isShort := isIn(length, 1, MaxLength) && isIn(x, -length, length) && isIn(y, -length, length)
	return isShort && x*x+y*y == length*length
}

func isIn(n, least, most int) bool { return least <= n && n <= most }

// isWithin reports whether a span is valid, and within minus a number to this
// number.
func isWithin(s api.Span, most int) bool { return -most <= s.Lo && s.Lo <= s.Hi && s.Hi <= most }
