package sift

import "radome/api"

func (v *view) always(Node) []state { return v.constantly(Sure) }

func (v *view) never(Node) []state { return v.constantly(Never) }

func (v *view) constantly(x state) []state {
	l := make([]state, v.size())
	for i := range l {
		l[i] = x
	}
	return l
}

func (v *view) not(c Node) []state {
	a := v.states(c.Args[0])
	l := make([]state, len(a))
	for i, x := range a {
		l[i] = opposite(x)
	}
	return l
}

// As Sure is less than Perhaps, and this less than Never, both conditions are
// what the greater one of them is, and one of them is what the lesser one is.

func (v *view) and(c Node) []state {
	return v.both(c, func(a, b state) state { return max(a, b) })
}

func (v *view) or(c Node) []state {
	return v.both(c, func(a, b state) state { return min(a, b) })
}

func (v *view) both(c Node, join func(a, b state) state) []state {
	a, b := v.states(c.Args[0]), v.states(c.Args[1])
	l := make([]state, len(a))
	for i := range l {
		l[i] = join(a[i], b[i])
	}
	return l
}

func (v *view) some(c Node) []state {
	return v.around(c, func(t tally) state { return stateOf(t.sure > 0, t.open > 0) })
}

func (v *view) all(c Node) []state {
	return v.around(c, func(t tally) state { return stateOf(t.sure == t.all, t.open == t.all) })
}

func (v *view) around(c Node, judge func(t tally) state) []state {
	tallies := v.tallies(c)
	l := make([]state, len(tallies))
	for i, t := range tallies {
		l[i] = judge(t)
	}
	return l
}

func (v *view) less(c Node) []state { return v.compared(c, less) }

func (v *view) notMore(c Node) []state { return v.compared(c, notMore) }

func (v *view) more(c Node) []state {
	return v.compared(c, func(a, b api.Span) state { return less(b, a) })
}

func (v *view) notLess(c Node) []state {
	return v.compared(c, func(a, b api.Span) state { return notMore(b, a) })
}

func (v *view) equal(c Node) []state { return v.compared(c, equal) }

func (v *view) notEqual(c Node) []state {
	return v.compared(c, func(a, b api.Span) state { return opposite(equal(a, b)) })
}

// compared returns what a comparison is: Never where a value is missing.
func (v *view) compared(c Node, compare func(a, b api.Span) state) []state {
	a, b := v.values(c.Args[0]), v.values(c.Args[1])
	l := make([]state, len(a))
	for i := range l {
		l[i] = Never
		if a[i].exists && b[i].exists {
			l[i] = compare(a[i].span, b[i].span)
		}
	}
	return l
}

func less(a, b api.Span) state { return stateOf(a.Hi < b.Lo, a.Lo < b.Hi) }

func notMore(a, b api.Span) state { return stateOf(a.Hi <= b.Lo, a.Lo <= b.Hi) }

// equal is Sure only of the same point.
func equal(a, b api.Span) state {
	return stateOf(a.Lo == b.Hi && a.Hi == b.Lo, a.Lo <= b.Hi && b.Lo <= a.Hi)
}

// opposite returns what the opposite of a condition is.
func opposite(x state) state { return Sure + Never - x }

// stateOf returns what a condition is that holds in all cases, or in some.
func stateOf(inAll, inSome bool) state {
	if inAll {
		return Sure
	}
	if inSome {
		return Perhaps
	}
	return Never
}
