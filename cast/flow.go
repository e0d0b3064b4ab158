package cast

import "radome/api"

// ends has, for both ends of a span, how they follow from those of two spans
// that are put together.
type ends struct {
	lo func(a, b int) int
	hi func(a, b int) int
}

// common returns the ends of what spans have in common.
func common() ends { return ends{lo: greater, hi: lesser} }

// hull returns the ends of the hull of spans.
func hull() ends { return ends{lo: lesser, hi: greater} }

func lesser(a, b int) int { return min(a, b) }

func greater(a, b int) int { return max(a, b) }

func (e ends) span(a, b api.Span) api.Span {
	return api.Span{Lo: e.lo(a.Lo, b.Lo), Hi: e.hi(a.Hi, b.Hi)}
}

// flow puts together some flows, at least one.
func (e ends) flow(l ...Flow) Flow {
	f := l[0]
	for _, other := range l[1:] {
		f = Flow{X: e.span(f.X, other.X), Y: e.span(f.Y, other.Y)}
	}
	return f
}

// Meet returns the flow in which flows meet; the error of the flows, or
// ErrConflict, and the first two that contradict each other.
func Meet(l []Flow) (f Flow, at [2]int, e api.Errno) {
	if e := checkFlows(l); e != api.OK {
		return Flow{}, [2]int{}, e
	}
	f = common().flow(l...)
	if isNothing(f) {
		return Flow{}, conflict(l), api.ErrConflict
	}
	return f, [2]int{}, api.OK
}

// isNothing reports whether there is no rush in what flows have in common.
func isNothing(f Flow) bool { return f.X.Lo > f.X.Hi || f.Y.Lo > f.Y.Hi }

// conflict returns the first two flows that contradict each other. If all of
// them have nothing in common, two of them have nothing, as they are spans.
func conflict(l []Flow) (at [2]int) {
	for i := range l {
		for j := i + 1; j < len(l); j++ {
			if isNothing(common().flow(l[i], l[j])) {
				return [2]int{i, j}
			}
		}
	}
	return at
}

// Hull returns the hull of flows, or their error.
func Hull(l []Flow) (Flow, api.Errno) {
	if e := checkFlows(l); e != api.OK {
		return Flow{}, e
	}
	return hull().flow(l...), api.OK
}

// Fit returns the flow that fits a move by numbers of pixels in some seconds;
// ErrRange if one of these numbers is out of its range, and ErrOver if the flow
// is.
func Fit(x, y api.Span, seconds, slack int) (Flow, api.Errno) {
	isMove := isWithin(x, MaxShift) && isWithin(y, MaxShift)
	if !isMove || !isIn(seconds, 1, maxSeconds) || !isIn(slack, 0, MaxSlack) {
		return Flow{}, api.ErrRange
	}
	f := Flow{X: rush(x, seconds, slack), Y: rush(y, seconds, slack)}
	if CheckFlow(f) != api.OK {
		return Flow{}, api.ErrOver
	}
	return f, api.OK
}

// rush returns the rush that fits a number of pixels.
func rush(s api.Span, seconds, slack int) api.Span {
	return api.Span{Lo: down(1000*(1000*s.Lo-slack), seconds), Hi: up(1000*(1000*s.Hi+slack), seconds)}
}

// Widen returns a flow that is widened by a change, in an hour, over some
// seconds; the error of the flow, or ErrRange if another number is out of its
// range.
func Widen(f Flow, change, seconds int) (Flow, api.Errno) {
	if e := CheckFlow(f); e != api.OK {
		return Flow{}, e
	}
	if !isIn(change, 0, MaxRush) || !isIn(seconds, 0, maxSeconds) {
		return Flow{}, api.ErrRange
	}
	by := up(change*seconds, hour)
	return Flow{X: widened(f.X, by), Y: widened(f.Y, by)}, api.OK
}

func widened(s api.Span, by int) api.Span {
	return api.Span{Lo: max(s.Lo-by, -MaxRush), Hi: min(s.Hi+by, MaxRush)}
}

// down returns a quotient rounded down, where / rounds to 0.
func down(a, b int) int {
	q := a / b
	if a%b < 0 {
		q--
	}
	return q
}

// up returns a quotient rounded up.
func up(a, b int) int { return -down(-a, b) }
