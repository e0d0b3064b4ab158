package cast

import (
	"radome/api"
	"radome/beam"
)

// state is Clear, Maybe or Sure.
type state int

func (s state) isMet() bool { return s != Clear }

func (s state) isSure() bool { return s == Sure }

// or returns the state for several clouds.
func (s state) or(other state) state { return max(s, other) }

// contradicts reports whether a forecast contradicts a later value at a level.
func (s state) contradicts(value api.Span, level int) bool {
	return s == Sure && value.Hi < level || s == Clear && value.Lo >= level
}

// watch keeps the seconds at which something holds of a state.
type watch struct {
	holds func(s state) bool
	first int
	last  int
	count int
}

func watchFor(holds func(s state) bool) *watch { return &watch{holds: holds, first: none, last: none} }

// see notes a state at a second; the seconds ascend.
func (w *watch) see(second int, s state) {
	if !w.holds(s) {
		return
	}
	if w.count == 0 {
		w.first = second
	}
	w.last = second
	w.count++
}

// At returns the states of all pixels for clouds at a lead; the error of the
// grid, ErrMany if there are too many clouds, the error of a cloud, or ErrRange
// if there is no such lead.
func At(g api.Grid, l []Cloud, lead int) ([]int, api.Errno) {
	if e := checkClouds(g, l, lead); e != api.OK {
		return nil, e
	}
	states := make([]int, g.Wide*g.High)
	pixels := api.Span{Lo: 0, Hi: len(states) - 1}
	for _, c := range l {
		k := knownOf(g, c)
		for pixel, from := range sources(g, c, pixels, point(lead)) {
			states[pixel] = int(state(states[pixel]).or(k.state(from)))
		}
	}
	return states, api.OK
}

// When returns the times of a pixel up to a lead; the error of the cloud, ErrNone
// if there is no such pixel, or ErrRange if there is no such lead.
func When(g api.Grid, c Cloud, pixel, lead int) (Times, api.Errno) {
	if e := CheckCloud(g, c); e != api.OK {
		return Times{}, e
	}
	if !hasPixel(g, pixel) {
		return Times{}, api.ErrNone
	}
	if e := checkLead(lead); e != api.OK {
		return Times{}, e
	}
	k := knownOf(g, c)
	met, sure := watchFor(state.isMet), watchFor(state.isSure)
	for second, from := range sources(g, c, point(pixel), api.Span{Lo: 0, Hi: lead}) {
		s := k.state(from)
		met.see(second, s)
		sure.see(second, s)
	}
	return Times{First: met.first, Sure: sure.first, Last: met.last, Least: sure.count, Most: met.count}, api.OK
}

// Held returns the pixels at which a forecast with some states contradicts a
// field at a level; the error of the field, ErrShape if there is not one state
// for each pixel, or ErrRange if there is no such level or no such state.
func Held(states []int, f api.Field, level int) ([]int, api.Errno) {
	if e := checkHeld(states, f, level); e != api.OK {
		return nil, e
	}
	var l []int
	for pixel, s := range states {
		if state(s).contradicts(f.Vals[pixel], level) {
			l = append(l, pixel)
		}
	}
	return l, api.OK
}

func checkHeld(states []int, f api.Field, level int) api.Errno {
	if e := beam.CheckField(f); e != api.OK {
		return e
	}
	if len(states) != len(f.Vals) {
		return api.ErrShape
	}
	if !isIn(level, 1, api.MaxPower) {
		return api.ErrRange
	}
	for _, s := range states {
		if !isIn(s, Clear, Sure) {
			return api.ErrRange
		}
	}
	return api.OK
}
