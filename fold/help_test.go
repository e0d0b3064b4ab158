package fold_test

import (
	"math"
	"slices"
	"testing"

	"radome/api"
	"radome/fold"
	"radome/pulse"
)

// The functions named want.. follow the definitions of the chapter word by
// word, so that they share nothing with the package.

// single is the train O of the chapter's examples, double its train D.
func single() pulse.Train {
	return pulse.Train{Lambda: 100000, Kind: pulse.One, First: 1000, Count: 4}
}

func double() pulse.Train {
	return pulse.Train{Lambda: 100000, Kind: pulse.Two, First: 1000, Second: 1250, Count: 4}
}

// trains are valid ones of each kind.
func trains() []pulse.Train {
	return []pulse.Train{
		single(),
		double(),
		{Lambda: 10000, Kind: pulse.One, First: 5000, Count: 2},
		{Lambda: 1000000, Kind: pulse.One, First: 200, Count: 2},
		{Lambda: 53321, Kind: pulse.Two, First: 700, Second: 1111, Count: 10},
		{Lambda: 100000, Kind: pulse.Turns, First: 1000, Second: 1250, Count: 9},
		{Lambda: 31415, Kind: pulse.Turns, First: 2000, Second: 2001, Count: 64},
		{Lambda: 1000000, Kind: pulse.Turns, First: 200, Second: 5000, Count: 3},
	}
}

// heard is a Clear echo with these steps.
func heard(first, second api.Span) api.Echo {
	return api.Echo{Kind: api.Clear, Power: pt(1), Steps: [2]api.Span{first, second}}
}

func quiet() api.Echo { return api.Echo{Kind: api.Quiet} }

func span(lo, hi int) api.Span { return api.Span{Lo: lo, Hi: hi} }

func pt(n int) api.Span { return span(n, n) }

// spans returns those between pairs of numbers.
func spans(l ...int) []api.Span {
	var all []api.Span
	for i := 0; i+1 < len(l); i += 2 {
		all = append(all, span(l[i], l[i+1]))
	}
	return all
}

// extremes are numbers that no argument may be spoiled by.
func extremes() []int {
	return []int{math.MinInt, math.MinInt + 1, -1 << 32, -1, 0, 1, 2, 3, 1000, 1 << 32, math.MaxInt - 1, math.MaxInt}
}

// noise yields numbers that look like random ones, and are always the same.
type noise struct{ state uint64 }

func (n *noise) upTo(most int) int {
	n.state = n.state*6364136223846793005 + 1442695040888963407
	return int(n.state>>33) % (most + 1)
}

func (n *noise) of(l ...int) int { return l[n.upTo(len(l)-1)] }

// inside returns a span within another one.
func (n *noise) inside(outer api.Span) api.Span {
	lo := outer.Lo + n.upTo(outer.Hi-outer.Lo)
	return span(lo, lo+n.upTo(outer.Hi-lo))
}

// set returns a set with at most some spans, whose integers differ from 0 by
// at most far; it is empty if none is chosen.
func (n *noise) set(most, far int) []api.Span {
	var ends []int
	for range 2 * n.upTo(most) {
		ends = append(ends, n.upTo(2*far)-far)
	}
	slices.Sort(ends)
	var s []api.Span
	for i := 0; i+1 < len(ends); i += 2 {
		if len(s) == 0 || s[len(s)-1].Hi < ends[i] {
			s = append(s, span(ends[i], ends[i+1]))
		}
	}
	return s
}

// less returns a set within another one, which is not empty if this is not.
func (n *noise) less(s []api.Span) []api.Span {
	var l []api.Span
	for _, x := range s {
		if n.upTo(3) > 0 {
			l = append(l, n.inside(x))
		}
	}
	if len(l) == 0 && len(s) > 0 {
		l = append(l, n.inside(s[n.upTo(len(s)-1)]))
	}
	return l
}

// rays returns sets for the gates of some rays; a part of them is not known.
func (n *noise) rays(rays, gates, most, far int) [][][]api.Span {
	unknown := n.of(0, 1, 3)
	all := make([][][]api.Span, rays)
	for ray := range all {
		all[ray] = make([][]api.Span, gates)
		for gate := range all[ray] {
			if n.upTo(9) >= unknown {
				all[ray][gate] = n.set(most, far)
			}
		}
	}
	return all
}

// has reports whether a set has the half of a number.
func has(s []api.Span, half int) bool {
	for _, x := range s {
		if 2*x.Lo <= half && half <= 2*x.Hi {
			return true
		}
	}
	return false
}

func isWithin(x, outer api.Span) bool {
	return x.Lo <= x.Hi && outer.Lo <= x.Lo && x.Hi <= outer.Hi
}

// isSetWithin reports whether each span of a set is within one of another one.
func isSetWithin(s, outer []api.Span) bool {
	for _, x := range s {
		if !slices.ContainsFunc(outer, func(o api.Span) bool { return isWithin(x, o) }) {
			return false
		}
	}
	return true
}

// isFormed reports whether spans have the form of a set.
func isFormed(s []api.Span) bool {
	for i, x := range s {
		if !isWithin(x, span(-200000, 200000)) || i > 0 && x.Lo <= s[i-1].Hi {
			return false
		}
	}
	return true
}

func sameSets(a, b [][]api.Span) bool {
	return slices.EqualFunc(a, b, func(s, t []api.Span) bool { return slices.Equal(s, t) })
}

func sameRays(a, b [][][]api.Span) bool { return slices.EqualFunc(a, b, sameSets) }

func mustGuess(t *testing.T, x pulse.Train, echo api.Echo, most int) []fold.Guess {
	t.Helper()
	l, e := fold.Guesses(x, echo, most)
	if e != api.OK {
		t.Fatalf("Guesses(%v, %v, %d): error %d", x, echo, most, e)
	}
	return l
}

func mustRay(t *testing.T, sets [][]api.Span, jump, bridge int) [][]api.Span {
	t.Helper()
	l, e := fold.Ray(sets, jump, bridge)
	if e != api.OK || len(l) != len(sets) {
		t.Fatalf("Ray(%v, %d, %d): %v, error %d", sets, jump, bridge, l, e)
	}
	return l
}

func mustTurn(t *testing.T, rays [][][]api.Span, jump, bridge int) [][][]api.Span {
	t.Helper()
	l, e := fold.Turn(rays, jump, bridge)
	if e != api.OK || len(l) != len(rays) {
		t.Fatalf("Turn(%v, %d, %d): %v, error %d", rays, jump, bridge, l, e)
	}
	return l
}

func mustUnfold(t *testing.T, x pulse.Train, s api.Sweep, most, jump, bridge int) [][]fold.Found {
	t.Helper()
	l, e := fold.Unfold(x, s, most, jump, bridge)
	if e != api.OK || len(l) != len(s.Rays) {
		t.Fatalf("Unfold of %v up to %d, with %d and %d: error %d", x, most, jump, bridge, e)
	}
	return l
}

func mustTrips(t *testing.T, a, b []api.Span, most int) []api.Span {
	t.Helper()
	l, e := fold.Trips(a, b, most)
	if e != api.OK || len(l) != most {
		t.Fatalf("Trips(%v, %v, %d): %v, error %d", a, b, most, l, e)
	}
	return l
}

func wantErr(t *testing.T, what string, got, want api.Errno) {
	t.Helper()
	if got != want {
		t.Errorf("%s: error %d, want %d", what, got, want)
	}
}

// limits of a number: what is beyond them is out of range.
type limits struct {
	what        string
	least, most int
	set         func(n int)
}

func checkLimits(t *testing.T, l limits, check func() api.Errno) {
	t.Helper()
	for n, want := range map[int]api.Errno{
		l.least: api.OK, l.most: api.OK,
		l.least - 1: api.ErrRange, l.most + 1: api.ErrRange, math.MinInt: api.ErrRange, math.MaxInt: api.ErrRange,
	} {
		l.set(n)
		if e := check(); e != want {
			t.Errorf("%s %d: error %d, want %d", l.what, n, e, want)
		}
	}
}
