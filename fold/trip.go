package fold

import (
	"radome/api"
	"radome/pulse"
)

// Window returns how many gates a train sees before its next pulse; the error
// of pulse.Reach, and ErrRange if there are no gates of this length.
func Window(t pulse.Train, which, step int) (int, api.Errno) {
	reach, e := pulse.Reach(t, which)
	if e != api.OK {
		return 0, e
	}
	if !isIn(step, 1, api.MaxStep) {
		return 0, api.ErrRange
	}
	return reach / step, api.OK
}

// Trips returns for each gate the powers that it can have, if two trains have
// brought back these sums; ErrRange if a sum or the number of gates is out of
// range, and ErrConflict if nothing fits both.
func Trips(a, b []api.Span, most int) ([]api.Span, api.Errno) {
	if e := checkSums(a, b, most); e != api.OK {
		return nil, e
	}
	f := flowOf(a, b, most)
	if !f.settle() {
		return nil, api.ErrConflict
	}
	l := make([]api.Span, most)
	for gate := range l {
		l[gate] = f.reach(gate)
	}
	return l, api.OK
}

// Profile returns powers of all gates that two trains can have brought back as
// these sums, with a given power at one gate; ErrRange if a sum, the number of
// gates, the gate or its power is out of range, and ErrConflict if nothing fits.
func Profile(a, b []api.Span, most, gate, power int) ([]int, api.Errno) {
	if e := checkSums(a, b, most); e != api.OK {
		return nil, e
	}
	if !isIn(gate, 0, most-1) || !isIn(power, 0, api.MaxPower) {
		return nil, api.ErrRange
	}
	f := flowOf(a, b, most)
	f.pipes[gate].bound = api.Span{Lo: power, Hi: power}
	if !f.settle() {
		return nil, api.ErrConflict
	}
	profile := make([]int, most)
	for gate := range profile {
		profile[gate] = f.pipes[gate].flow
	}
	return profile, api.OK
}
