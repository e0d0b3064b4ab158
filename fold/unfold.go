package fold

import (
	"radome/api"
	"radome/pulse"
)

// Unfold returns which guesses of each gate of a sweep are left, if linked
// gates cannot differ too much: the error of the train, that of the sweep,
// ErrRange if the bound, the jump or the bridge is out of its range, and
// ErrMany as Guesses.
func Unfold(t pulse.Train, s api.Sweep, most, jump, bridge int) ([][]Found, api.Errno) {
	if e := pulse.CheckTrain(t); e != api.OK {
		return nil, e
	}
	if e := pulse.CheckSweep(s); e != api.OK {
		return nil, e
	}
	if e := checkBound(most); e != api.OK {
		return nil, e
	}
	if e := checkLinks(jump, bridge); e != api.OK {
		return nil, e
	}
	guessed, e := guessAll(t, s, most)
	if e != api.OK {
		return nil, e
	}
	sets := stable(speeds(guessed), jump, bridge)
	found := make([][]Found, len(s.Rays))
	for ray, echoes := range s.Rays {
		for gate, x := range echoes {
			f := Found{State: Blank}
			if x.Kind == api.Clear {
				f = left(guessed[ray][gate], set(sets[ray][gate]).hull)
			}
			found[ray] = append(found[ray], f)
		}
	}
	return found, api.OK
}

// guessAll returns the guesses of all gates, none for those that are not
// Clear; or ErrMany.
func guessAll(t pulse.Train, s api.Sweep, most int) ([][][]Guess, api.Errno) {
	all := make([][][]Guess, len(s.Rays))
	for ray, echoes := range s.Rays {
		all[ray] = make([][]Guess, len(echoes))
		for gate, x := range echoes {
			if x.Kind != api.Clear {
				continue
			}
			l, e := guesses(t, x, most)
			if e != api.OK {
				return nil, e
			}
			all[ray][gate] = l
		}
	}
	return all, api.OK
}

// speeds returns for each gate the set of all speeds that are guessed.
func speeds(guessed [][][]Guess) [][][]api.Span {
	all := make([][][]api.Span, len(guessed))
	for ray, gates := range guessed {
		for _, l := range gates {
			var spans []api.Span
			for _, g := range l {
				spans = append(spans, g.Speed)
			}
			all[ray] = append(all[ray], union(spans))
		}
	}
	return all
}

// left returns those guesses of a gate that have something in common with its
// stable set, and what this is.
func left(guessed []Guess, common func(api.Span) (api.Span, bool)) Found {
	var l []Guess
	for _, g := range guessed {
		if speed, met := common(g.Speed); met {
			l = append(l, Guess{Whole: g.Whole, Speed: speed})
		}
	}
	switch len(l) {
	case 0:
		return Found{State: Torn}
	case 1:
		return Found{State: Single, Guesses: l}
	}
	return Found{State: Several, Guesses: l}
}
