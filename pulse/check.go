package pulse

import (
	"radome/api"
	"radome/beam"
)

// CheckTrain returns ErrArg if there is no such kind of trains, and ErrRange
// if another field is not as this kind asks for.
func CheckTrain(t Train) api.Errno {
	if t.Kind != One && t.Kind != Two && t.Kind != Turns {
		return api.ErrArg
	}
	if !isIn(t.Lambda, MinLambda, MaxLambda) || !isTimed(t) || !isCounted(t) {
		return api.ErrRange
	}
	return api.OK
}

// CheckReceiver returns ErrRange if a field of a receiver is out of its range.
func CheckReceiver(r Receiver) api.Errno {
	known := isIn(r.Level, 0, MaxError) && isIn(r.Phase, 0, MaxSlip)
	if !known || !isWithin(r.Noise, api.Span{Lo: 0, Hi: MaxNoise}) {
		return api.ErrRange
	}
	return api.OK
}

// CheckEcho returns ErrArg if there is no such kind of echoes, and ErrRange if
// an echo is not valid for another reason.
func CheckEcho(x api.Echo) api.Errno {
	var valid bool
	switch x.Kind {
	case api.Quiet:
		valid = isQuiet(x)
	case api.Mixed:
		valid = isHeard(x) && x.Steps == [2]api.Span{} && x.Turn == api.Span{}
	case api.Clear:
		valid = isHeard(x) && areParts(x.Steps[0], x.Steps[1], x.Turn)
	default:
		return api.ErrArg
	}
	if !valid {
		return api.ErrRange
	}
	return api.OK
}

// CheckSweep returns the error of the site of a sweep, ErrRange if its tilt or
// its time is out of range, ErrShape if there is not one echo for each gate,
// and the error of the first echo with one.
func CheckSweep(s api.Sweep) api.Errno {
	if e := beam.CheckSite(s.Site); e != api.OK {
		return e
	}
	if !isIn(s.Tilt, 0, api.MaxTilt) || !isIn(s.Time, 0, api.MaxTime) {
		return api.ErrRange
	}
	if !isShaped(s) {
		return api.ErrShape
	}
	for _, ray := range s.Rays {
		for _, x := range ray {
			if e := CheckEcho(x); e != api.OK {
				return e
			}
		}
	}
	return api.OK
}

// check returns the error of a train, or else that of a receiver.
func check(t Train, r Receiver) api.Errno {
	if e := CheckTrain(t); e != api.OK {
		return e
	}
	return CheckReceiver(r)
}

// checkSamples returns ErrShape if there is not one sample for each pulse of a
// train, and ErrRange if one is not valid.
func checkSamples(t Train, l []Sample) api.Errno {
	if len(l) != t.Count {
		return api.ErrShape
	}
	for _, x := range l {
		if !isIn(x.H, 0, MaxLevel) || !isIn(x.V, 0, MaxLevel) || !isPart(x.P) || !isPart(x.Q) {
			return api.ErrRange
		}
	}
	return api.OK
}

func isTimed(t Train) bool {
	if t.Kind == One {
		return isIn(t.First, MinTime, MaxTime) && t.Second == 0
	}
	return MinTime <= t.First && t.First < t.Second && t.Second <= MaxTime
}

// isCounted reports whether a train has at least one step of each time.
func isCounted(t Train) bool {
	switch t.Kind {
	case One:
		return isIn(t.Count, 2, MaxCount)
	case Two:
		return isIn(t.Count, 4, MaxCount) && t.Count%2 == 0
	}
	return isIn(t.Count, 3, MaxCount)
}

// isQuiet reports whether nothing is said of an echo but how strong it can be.
func isQuiet(x api.Echo) bool {
	loudest := api.Span{Lo: 0, Hi: x.Power.Hi}
	return isPower(loudest) && x == api.Echo{Kind: api.Quiet, Power: loudest}
}

// isHeard reports whether what is said of an echo that surely is one, apart
// from steps and turn, is valid.
func isHeard(x api.Echo) bool {
	compared := isWithin(x.Ratio, api.Span{Lo: 0, Hi: MaxRatio}) && isWithin(x.Match, api.Span{Lo: 0, Hi: 1000})
	return isPower(x.Power) && x.Power.Lo > 0 && compared && isPart(x.Spread)
}

// areParts reports whether spans of parts of a turn are valid in an echo:
// narrower than a turn, and moved by whole turns to where echoes have them.
func areParts(l ...api.Span) bool {
	for _, s := range l {
		// The ends are compared one by one, as Hi can be any number.
		if !isIn(s.Lo, -api.MaxTurn/2, api.MaxTurn/2-1) || !isIn(s.Hi, s.Lo, s.Lo+api.MaxTurn-1) {
			return false
		}
	}
	return true
}

func isShaped(s api.Sweep) bool {
	if len(s.Rays) != 4*s.Site.Rose {
		return false
	}
	for _, ray := range s.Rays {
		if len(ray) != s.Site.Gates {
			return false
		}
	}
	return true
}

func isPower(s api.Span) bool { return isWithin(s, api.Span{Lo: 0, Hi: api.MaxPower}) }
