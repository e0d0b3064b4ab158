package rain

import "radome/api"

// Sum returns how much rain fell by a record, from its first reading to an
// end; ErrEmpty if there are no readings; for the first one with an error,
// ErrRange or ErrOrder; ErrRange if the end or the slack is out of range; and
// ErrLate if the record goes beyond the end.
func Sum(l []Reading, end, slack int) (api.Span, api.Errno) {
	if e := checkRecord(l); e != api.OK {
		return api.Span{}, e
	}
	if !isIn(end, 0, api.MaxTime) || !isIn(slack, 0, 1000) {
		return api.Span{}, api.ErrRange
	}
	if l[len(l)-1].Time > end {
		return api.Span{}, api.ErrLate
	}
	// Nothing wraps around: MaxTime seconds with the rate MaxRate, times 2,000,
	// are below 2^63.
	const unit = 360 * 1000
	s := products(l, end)
	return api.Span{Lo: s.Lo * (1000 - slack) / unit, Hi: up(s.Hi*(1000+slack), unit)}, api.OK
}

// checkRecord returns ErrEmpty if there are no readings; and for the first one
// with an error, ErrRange if its time or its rate is out of range, and ErrOrder
// if it is not later than the one before it.
func checkRecord(l []Reading) api.Errno {
	if len(l) == 0 {
		return api.ErrEmpty
	}
	for i, r := range l {
		if !isIn(r.Time, 0, api.MaxTime) || !isRate(r.Rate) {
			return api.ErrRange
		}
		if i > 0 && r.Time <= l[i-1].Time {
			return api.ErrOrder
		}
	}
	return api.OK
}

// products returns the sum of all rates of a record until an end, each of them
// times its seconds.
func products(l []Reading, end int) api.Span {
	var s api.Span
	for i, r := range l {
		rate, until := r.Rate, end
		if i+1 < len(l) {
			rate, until = hull(r.Rate, l[i+1].Rate), l[i+1].Time
		}
		s.Lo += rate.Lo * (until - r.Time)
		s.Hi += rate.Hi * (until - r.Time)
	}
	return s
}
