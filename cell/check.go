package cell

import (
	"radome/api"
	"radome/beam"
)

// checkLevel returns the error of a field, and ErrRange if there is no such
// level.
func checkLevel(f api.Field, level int) api.Errno {
	if e := beam.CheckField(f); e != api.OK {
		return e
	}
	if !isLevel(level) {
		return api.ErrRange
	}
	return api.OK
}

// checkPair returns the error of a field and a level, and ErrNone if one of two
// pixels does not exist.
func checkPair(f api.Field, level, p, q int) api.Errno {
	if e := checkLevel(f, level); e != api.OK {
		return e
	}
	if !hasNumber(f.Vals, p) || !hasNumber(f.Vals, q) {
		return api.ErrNone
	}
	return api.OK
}

// checkLevels returns the error of a field, and that of some levels: ErrRange if
// there are too few or too many, or if one is none, and ErrOrder if one is not
// greater than the one before it.
func checkLevels(f api.Field, levels []int) api.Errno {
	if e := beam.CheckField(f); e != api.OK {
		return e
	}
	if !isIn(len(levels), 1, MaxLevels) {
		return api.ErrRange
	}
	for i, level := range levels {
		if !isLevel(level) {
			return api.ErrRange
		}
		if i > 0 && level <= levels[i-1] {
			return api.ErrOrder
		}
	}
	return api.OK
}

// checkMaps returns the errors of two fields, ErrShape if their grids are not
// equal, and ErrRange if there is no such level or no such reach.
func checkMaps(a, b api.Field, level, reach int) api.Errno {
	if e := beam.CheckField(a); e != api.OK {
		return e
	}
	if e := beam.CheckField(b); e != api.OK {
		return e
	}
	if a.Grid != b.Grid {
		return api.ErrShape
	}
	if !isLevel(level) || !isReach(reach) {
		return api.ErrRange
	}
	return api.OK
}

func isLevel(n int) bool { return isIn(n, 1, api.MaxPower) }

func isReach(n int) bool { return isIn(n, 0, MaxReach) }

func isIn(n, least, most int) bool { return least <= n && n <= most }

// hasNumber reports whether a list has an element with a number.
func hasNumber[T any](l []T, n int) bool { return isIn(n, 0, len(l)-1) }
