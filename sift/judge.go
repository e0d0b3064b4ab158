package sift

import "radome/api"

// Test returns what a condition is for a gate: ErrMany, ErrDeep or ErrArg if it
// is none, the error of the sweep, and ErrNone if this has no such gate.
func Test(c Node, s api.Sweep, ray, gate int) (int, api.Errno) {
	if e := checkAt(c, isCondition, s, ray, gate); e != api.OK {
		return 0, e
	}
	v := newView(s)
	return int(v.states(c)[v.number(ray, gate)]), api.OK
}

// Value returns what a value is for a gate, and whether there is one; with the
// errors of Test.
func Value(v Node, s api.Sweep, ray, gate int) (api.Span, bool, api.Errno) {
	if e := checkAt(v, isValue, s, ray, gate); e != api.OK {
		return api.Span{}, false, e
	}
	w := newView(s)
	x := w.values(v)[w.number(ray, gate)]
	return x.span, x.exists, api.OK
}

// Judge returns the verdicts on all gates: the error of Check, or else that of
// the sweep.
func Judge(l []Rule, s api.Sweep) ([][]Verdict, api.Errno) {
	if e := checkWith(l, s); e != api.OK {
		return nil, e
	}
	return verdicts(l, s), api.OK
}

// Clean returns a sweep without the gates that are struck out; with the errors
// of Judge.
func Clean(l []Rule, s api.Sweep) (api.Sweep, api.Errno) {
	if e := checkWith(l, s); e != api.OK {
		return api.Sweep{}, e
	}
	rays := make([][]api.Echo, len(s.Rays))
	for ray, row := range verdicts(l, s) {
		for gate, x := range row {
			echo := s.Rays[ray][gate]
			if x.Rule >= 0 {
				echo = api.Echo{Kind: api.Quiet}
			}
			rays[ray] = append(rays[ray], echo)
		}
	}
	s.Rays = rays
	return s, api.OK
}

func verdicts(l []Rule, s api.Sweep) [][]Verdict {
	v := newView(s)
	var states [][]state
	for _, r := range l {
		states = append(states, v.states(r.When))
	}
	rays := make([][]Verdict, len(s.Rays))
	for ray := range rays {
		for gate := range s.Site.Gates {
			rays[ray] = append(rays[ray], verdict(states, v.number(ray, gate)))
		}
	}
	return rays
}

// verdict returns the verdict on a gate, from what each rule is for all gates.
func verdict(states [][]state, number int) Verdict {
	var doubts []int
	for i, l := range states {
		switch l[number] {
		case Sure:
			return Verdict{Rule: i, Doubts: doubts}
		case Perhaps:
			doubts = append(doubts, i)
		}
	}
	return Verdict{Rule: -1, Doubts: doubts}
}
