package wind

import (
	"slices"

	"radome/api"
)

// Front returns the first numbers between which sights agree, as well as all
// others do; the error of the list, ErrMany if there are too many sights,
// ErrNone if all agree, or ErrConflict if there are no such numbers.
func Front(l []Sight) (from, to int, e api.Errno) {
	if e := checkList(l); e != api.OK {
		return 0, 0, e
	}
	if len(l) > MaxFront {
		return 0, 0, api.ErrMany
	}
	if !agreeing(l).isEmpty() {
		return 0, 0, api.ErrNone
	}
	for from := range l {
		if to, ok := frontEnd(l, from); ok {
			return from, to, api.OK
		}
	}
	return 0, 0, api.ErrConflict
}

// frontEnd returns the end of the first front that begins at a number, if there
// is one.
func frontEnd(l []Sight, from int) (to int, ok bool) {
	left := allWinds()
	for to := from + 1; to <= len(l); to++ {
		left = left.agreeing(l[to-1])
		if left.isEmpty() {
			return 0, false // nor do more sights agree
		}
		if !agreeing(slices.Concat(l[:from], l[to:])).isEmpty() {
			return to, true
		}
	}
	return 0, false
}
