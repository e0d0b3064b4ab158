package wind

import (
	"sort"

	"radome/api"
)

// Agree reports whether a wind agrees with all sights; the error of the list, or
// ErrRange if there is no such wind.
func Agree(l []Sight, u, v int) (bool, api.Errno) {
	if e := checkList(l); e != api.OK {
		return false, e
	}
	if !isIn(u, -MaxWind, MaxWind) || !isIn(v, -MaxWind, MaxWind) {
		return false, api.ErrRange
	}
	for _, x := range l {
		if !isIn(u*x.X+v*x.Y, x.Speed.Lo*x.L, x.Speed.Hi*x.L) {
			return false, api.OK
		}
	}
	return true, api.OK
}

// Bounds returns the reach of sights to the east and to the north; the error of
// the list, or ErrConflict.
func Bounds(l []Sight) (Wind, api.Errno) {
	if e := checkList(l); e != api.OK {
		return Wind{}, e
	}
	s := agreeing(l)
	if s.isEmpty() {
		return Wind{}, api.ErrConflict
	}
	return Wind{U: s.reach(1, 0, 1), V: s.reach(0, 1, 1)}, api.OK
}

// Along returns the reach of sights in a direction; the error of the list,
// ErrRange if it is no direction, or ErrConflict.
func Along(l []Sight, x, y, length int) (api.Span, api.Errno) {
	if e := checkList(l); e != api.OK {
		return api.Span{}, e
	}
	if !isDirection(x, y, length) {
		return api.Span{}, api.ErrRange
	}
	s := agreeing(l)
	if s.isEmpty() {
		return api.Span{}, api.ErrConflict
	}
	return s.reach(x, y, length), api.OK
}

// Strain returns by how much at least all spans have to become wider at both
// ends so that the sights agree; or the error of the list.
func Strain(l []Sight) (int, api.Errno) {
	if e := checkList(l); e != api.OK {
		return 0, e
	}
	// With spans that are wider by MaxAlong the calm agrees with all sights.
	return sort.Search(MaxAlong, func(d int) bool {
		return !agreeing(widened(l, d)).isEmpty()
	}), api.OK
}

// widened returns sights whose spans are wider at both ends.
func widened(l []Sight, by int) []Sight {
	wide := make([]Sight, len(l))
	for i, x := range l {
		x.Speed = api.Span{Lo: x.Speed.Lo - by, Hi: x.Speed.Hi + by}
		wide[i] = x
	}
	return wide
}
