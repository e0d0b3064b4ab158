package pulse

import "radome/api"

// Speed returns the speeds for which steps stand, with whole turns more;
// ErrArg if the train has no such time, and ErrRange if the steps are not
// valid or too far from 0, or if there are too many turns.
func Speed(t Train, which int, step api.Span, whole int) (api.Span, api.Errno) {
	num, den, e := Fold(t, which)
	if e != api.OK {
		return api.Span{}, e
	}
	const far = 2 * api.MaxTurn
	if !isWithin(step, api.Span{Lo: -far, Hi: far}) || !isIn(whole, -MaxWhole, MaxWhole) {
		return api.Span{}, api.ErrRange
	}
	more := whole * api.MaxTurn
	return api.Span{
		Lo: down(num*(step.Lo+more), den*api.MaxTurn),
		Hi: up(num*(step.Hi+more), den*api.MaxTurn),
	}, api.OK
}

// Fold returns the speed of a whole turn, as a quotient; ErrArg if the train
// has no such time.
func Fold(t Train, which int) (num, den int, e api.Errno) {
	time, e := timeOf(t, which)
	if e != api.OK {
		return 0, 0, e
	}
	return 500 * t.Lambda, time, api.OK
}

// Reach returns from how far echoes come before the next pulse; ErrArg if the
// train has no such time.
func Reach(t Train, which int) (int, api.Errno) {
	time, e := timeOf(t, which)
	if e != api.OK {
		return 0, e
	}
	return 150 * time, api.OK
}

// timeOf returns a time of a train, or the error of the train, or ErrArg if it
// has no such time.
func timeOf(t Train, which int) (int, api.Errno) {
	if e := CheckTrain(t); e != api.OK {
		return 0, e
	}
	switch {
	case which == 0:
		return t.First, api.OK
	case which == 1 && t.Kind != One:
		return t.Second, api.OK
	}
	return 0, api.ErrArg
}
