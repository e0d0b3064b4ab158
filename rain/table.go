package rain

import (
	"sort"

	"radome/api"
)

// CheckTable returns ErrEmpty if a table has too few points, ErrMany if it has
// too many; and for its first point with an error, ErrRange if its power is
// out of range or its value above a greatest one, and ErrOrder if it is not
// where it has to be.
func CheckTable(l []Point, most int) api.Errno {
	if len(l) < 2 {
		return api.ErrEmpty
	}
	if len(l) > MaxPoints {
		return api.ErrMany
	}
	for i, p := range l {
		if !isIn(p.Z, 0, api.MaxPower) || !isIn(p.R, 0, most) {
			return api.ErrRange
		}
		if !follows(l, i) {
			return api.ErrOrder
		}
	}
	return api.OK
}

// CheckModel returns the error of the first table of a model with one, and
// ErrRange if one of its spans is not valid, or out of range.
func CheckModel(m Model) api.Errno {
	if e := CheckTable(m.Loss, MaxLoss); e != api.OK {
		return e
	}
	if e := CheckTable(m.Rate, MaxRate); e != api.OK {
		return e
	}
	factors := api.Span{Lo: 0, Hi: MaxFactor}
	if !isWithin(m.Melt, api.Span{Lo: 0, Hi: api.MaxHeight}) || !isWithin(m.In, factors) || !isWithin(m.Above, factors) {
		return api.ErrRange
	}
	return api.OK
}

// Value returns the value of a table at a power, rounded down and rounded up;
// ErrRange if this is no power.
func Value(l []Point, z int) (api.Span, api.Errno) {
	if e := CheckTable(l, api.MaxPower); e != api.OK {
		return api.Span{}, e
	}
	if !isIn(z, 0, api.MaxPower) {
		return api.Span{}, api.ErrRange
	}
	return worthOf(l)(z), api.OK
}

// follows reports whether a point of a table begins it, or is beyond the one
// before it.
func follows(l []Point, i int) bool {
	if i == 0 {
		return l[0].Z == 0
	}
	return l[i].Z > l[i-1].Z && l[i].R >= l[i-1].R
}

// worth is what a power is worth, rounded down and rounded up.
type worth func(z int) api.Span

// worthOf returns what powers are worth by the points of a table.
func worthOf(l []Point) worth {
	return func(z int) api.Span {
		beyond := sort.Search(len(l), func(i int) bool { return l[i].Z > z })
		a := l[beyond-1]
		if beyond == len(l) {
			return only(a.R)
		}
		b := l[beyond]
		num, den := (b.R-a.R)*(z-a.Z), b.Z-a.Z
		return api.Span{Lo: a.R + num/den, Hi: a.R + up(num, den)}
	}
}

// ofAll returns the least span that has what all powers of a span are worth.
func (w worth) ofAll(powers api.Span) api.Span {
	return api.Span{Lo: w(powers.Lo).Lo, Hi: w(powers.Hi).Hi}
}
