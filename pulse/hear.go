package pulse

import (
	"iter"

	"radome/api"
)

// Hear returns the echo of the samples of a train; ErrShape if there is not
// one for each pulse, and ErrRange if one is not valid.
func Hear(t Train, r Receiver, l []Sample) (api.Echo, api.Errno) {
	if e := check(t, r); e != api.OK {
		return api.Echo{}, e
	}
	if e := checkSamples(t, l); e != api.OK {
		return api.Echo{}, e
	}
	return hear(t, r, l), api.OK
}

// Ray returns the echoes of a ray, from the samples of each of its gates;
// ErrShape if there are too many gates, and the error of the first gate with
// one.
func Ray(t Train, r Receiver, rows [][]Sample) ([]api.Echo, api.Errno) {
	if e := check(t, r); e != api.OK {
		return nil, e
	}
	if len(rows) > api.MaxGates {
		return nil, api.ErrShape
	}
	ray := make([]api.Echo, len(rows))
	for gate, l := range rows {
		if e := checkSamples(t, l); e != api.OK {
			return nil, e
		}
		ray[gate] = hear(t, r, l)
	}
	return ray, api.OK
}

// hear returns the echo of valid samples.
func hear(t Train, r Receiver, l []Sample) api.Echo {
	least, most := add(l, -r.Level), add(l, r.Level)
	weakest := least.squares.powers(down, t.Count, r.Noise.Hi)
	strongest := most.squares.powers(up, t.Count, r.Noise.Lo)
	if strongest == (pair{}) {
		return api.Echo{Kind: api.Quiet} // as in most gates: both channels are silent
	}
	x := api.Echo{Kind: api.Quiet, Power: api.Span{Lo: weakest[0], Hi: strongest[0]}}
	if x.Power.Lo == 0 {
		return x
	}
	x.Ratio, x.Match = ratio(weakest, strongest), match(least, most)
	return withPhases(x, t, r, l)
}

// withPhases returns an echo that surely is one, with what phases say of it.
func withPhases(x api.Echo, t Train, r Receiver, l []Sample) api.Echo {
	first, second := stepsOf(t, l)
	turns := turnsOf(l)
	x.Spread = max(first.width, second.width)
	if !first.isTogether(r.Phase) || !second.isTogether(r.Phase) || !turns.isTogether(r.Phase) {
		x.Kind = api.Mixed
		return x
	}
	x.Kind = api.Clear
	x.Steps[0] = first.mean(slack(t, r, first))
	x.Steps[1] = second.mean(slack(t, r, second))
	x.Turn = turns.mean(2 * r.Phase * t.Count)
	return x
}

// slack returns by how much the sum of steps of a train can be wrong: where
// they follow one another, all phases but the first and the last one fall out.
func slack(t Train, r Receiver, steps arc) int {
	if t.Kind == Turns {
		return 2 * r.Phase * len(steps.numbers)
	}
	return 2 * r.Phase
}

// stepsOf returns the arcs of the steps of both times of a train.
func stepsOf(t Train, l []Sample) (first, second arc) {
	var numbers [2][]int
	for which, step := range steps(t, l) {
		numbers[which] = append(numbers[which], step)
	}
	return arcOf(numbers[0]), arcOf(numbers[1])
}

// steps yields the steps of a train, each behind the number of its time.
func steps(t Train, l []Sample) iter.Seq2[int, int] {
	return func(yield func(int, int) bool) {
		for i := range len(l) - 1 {
			if t.Kind == Two && i == t.Count/2-1 {
				continue // no stated time passes from one half to the other one
			}
			if !yield(timeBehind(t, i), modulo(l[i+1].P-l[i].P)) {
				return
			}
		}
	}
}

// timeBehind returns which time passes behind a pulse: 0 for the first one of
// its train, 1 for the second one.
func timeBehind(t Train, pulse int) int {
	switch t.Kind {
	case Two:
		return pulse / (t.Count / 2)
	case Turns:
		return pulse % 2
	}
	return 0
}

// turnsOf returns the arc of how far the second channel is behind the first
// one in each pulse.
func turnsOf(l []Sample) arc {
	var numbers []int
	for _, x := range l {
		numbers = append(numbers, modulo(x.Q-x.P))
	}
	return arcOf(numbers)
}
