package sift

import (
	"iter"

	"radome/api"
)

// state is what a condition is for a gate: Sure, Perhaps or Never.
type state int8

// found is what a value is for a gate, if there is one.
type found struct {
	span   api.Span
	exists bool
}

// view is what conditions and values are for the gates of a sweep. The gates
// are numbered ray by ray.
type view struct {
	sweep api.Sweep
	kept  map[string][]state // what conditions are for all gates, by their texts
}

func newView(s api.Sweep) *view {
	return &view{sweep: s, kept: map[string][]state{}}
}

// size returns the number of all gates.
func (v *view) size() int { return len(v.sweep.Rays) * v.sweep.Site.Gates }

// number returns the number of a gate of a ray.
func (v *view) number(ray, gate int) int { return ray*v.sweep.Site.Gates + gate }

// states returns what a condition is for all gates. This is found out once for
// each text, as rules can have the same condition in many places.
func (v *view) states(c Node) []state {
	key := text(c)
	if l, isKept := v.kept[key]; isKept {
		return l
	}
	doings := [...]func(*view, Node) []state{
		True: (*view).always, False: (*view).never,
		Not: (*view).not, And: (*view).and, Or: (*view).or,
		Some: (*view).some, All: (*view).all,
		Lt: (*view).less, Le: (*view).notMore, Gt: (*view).more, Ge: (*view).notLess,
		Eq: (*view).equal, Ne: (*view).notEqual,
	}
	l := doings[c.Op](v, c)
	v.kept[key] = l
	return l
}

// values returns what a value is for all gates.
func (v *view) values(n Node) []found {
	doings := [...]func(*view, Node) []found{
		Number: (*view).constant,
		Power:  (*view).power, Ratio: (*view).ratio, Match: (*view).match, Spread: (*view).spread,
		Turn: (*view).turn, Step: (*view).step,
		Kind: (*view).kind, Ray: (*view).ray, Gate: (*view).gate, Tilt: (*view).tilt,
		Count: (*view).count, Add: (*view).sum, Sub: (*view).difference,
	}
	return doings[n.Op](v, n)
}

// near yields the numbers of the neighbors of a gate, each once.
func (v *view) near(number, rays, gates int) iter.Seq[int] {
	return func(yield func(int) bool) {
		turn, long := len(v.sweep.Rays), v.sweep.Site.Gates
		ray, gate := number/long, number%long
		first, last := max(gate-gates, 0), min(gate+gates, long-1)
		// With few rays both directions around lead to the same ones.
		for d := range min(2*rays+1, turn) {
			begin := (ray - rays + d + turn) % turn * long
			for k := begin + first; k <= begin+last; k++ {
				if k != number && !yield(k) {
					return
				}
			}
		}
	}
}

// tally is how many neighbors a gate has, for how many of them a condition is
// Sure, and for how many of them it is not Never.
type tally struct{ all, sure, open int }

// tallies returns for all gates the tally of what is below a node.
func (v *view) tallies(n Node) []tally {
	states := v.states(n.Args[0])
	l := make([]tally, len(states))
	for i := range l {
		t := &l[i]
		for k := range v.near(i, n.Rays, n.Gates) {
			t.all++
			if states[k] == Sure {
				t.sure++
			}
			if states[k] != Never {
				t.open++
			}
		}
	}
	return l
}
