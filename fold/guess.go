package fold

import (
	"iter"

	"radome/api"
	"radome/pulse"
)

// Guesses returns the speeds that are possible for an echo, up to a bound: the
// error of the train, that of the echo, ErrRange if there is no such bound,
// ErrEmpty if the echo is not Clear, and ErrMany if the bound is so great that
// there could be more turns than pulse counts.
func Guesses(t pulse.Train, x api.Echo, most int) ([]Guess, api.Errno) {
	if e := pulse.CheckTrain(t); e != api.OK {
		return nil, e
	}
	if e := pulse.CheckEcho(x); e != api.OK {
		return nil, e
	}
	if e := checkBound(most); e != api.OK {
		return nil, e
	}
	if x.Kind != api.Clear {
		return nil, api.ErrEmpty
	}
	return guesses(t, x, most)
}

// guesses returns the guesses of an echo that is Clear, or ErrMany.
func guesses(t pulse.Train, x api.Echo, most int) ([]Guess, api.Errno) {
	first, e := guessesOf(t, 0, x.Steps[0], most)
	if e != api.OK || t.Kind == pulse.One {
		return first, e
	}
	second, e := guessesOf(t, 1, x.Steps[1], most)
	if e != api.OK {
		return nil, e
	}
	return pairs(first, second), api.OK
}

// guessesOf returns the guesses that one time of a train leaves, with their
// turns in Whole[0], or ErrMany.
func guessesOf(t pulse.Train, which int, step api.Span, most int) ([]Guess, api.Errno) {
	var l []Guess
	for whole, speed := range turns(t, which, step, api.Span{Lo: -most, Hi: most}) {
		if whole == -pulse.MaxWhole || whole == pulse.MaxWhole {
			return nil, api.ErrMany
		}
		l = append(l, Guess{Whole: [2]int{whole, 0}, Speed: speed})
	}
	return l, api.OK
}

// turns yields the numbers of whole turns, from the least one on, by which a
// step leads to speeds within a bound, with these speeds.
func turns(t pulse.Train, which int, step, bound api.Span) iter.Seq2[int, api.Span] {
	return func(yield func(int, api.Span) bool) {
		for whole := -pulse.MaxWhole; whole <= pulse.MaxWhole; whole++ {
			speed, _ := pulse.Speed(t, which, step, whole)
			common, met := meet(speed, bound)
			if met && !yield(whole, common) {
				return
			}
		}
	}
}

// pairs returns the guesses that both times of a train leave together. Of
// either time the speeds never go back from one guess to the next one, so what
// lies below one guess of the first time lies below all behind it.
func pairs(first, second []Guess) []Guess {
	var l []Guess
	for _, a := range first {
		for len(second) > 0 && second[0].Speed.Hi < a.Speed.Lo {
			second = second[1:]
		}
		for _, b := range second {
			common, met := meet(a.Speed, b.Speed)
			if !met {
				break
			}
			l = append(l, Guess{Whole: [2]int{a.Whole[0], b.Whole[0]}, Speed: common})
		}
	}
	return l
}
