package trace

import "radome/api"

// claim is what a test says of the gain of its radar.
type claim struct {
	test int
	gain api.Span
}

// Gain returns the gain of a radar at a time: ErrNone if it does not exist,
// ErrRange if there is no such time, ErrEmpty if none of its tests counts, and
// ErrConflict if two tests contradict each other, with the first two.
func (b *Book) Gain(radar string, time int) (gain api.Span, at [2]int, e api.Errno) {
	if b.isNone() {
		return api.Span{}, [2]int{}, api.ErrNil
	}
	if _, exists := b.kept.drifts[radar]; !exists {
		return api.Span{}, [2]int{}, api.ErrNone
	}
	if !isIn(time, 0, api.MaxTime) {
		return api.Span{}, [2]int{}, api.ErrRange
	}
	l := b.kept.claims(radar, time)
	if len(l) == 0 {
		return api.Span{}, [2]int{}, api.ErrEmpty
	}
	gain = l[0].gain
	for _, c := range l[1:] {
		gain = common(gain, c.gain)
	}
	if isEmpty(gain) {
		return api.Span{}, contradiction(l), api.ErrConflict
	}
	return gain, [2]int{}, api.OK
}

// claims returns what the tests of a radar that count say of its gain at a
// time.
func (k *state) claims(radar string, time int) []claim {
	var l []claim
	for i, t := range k.tests {
		if t.Radar == radar && !k.void[t.Standard] {
			l = append(l, claim{test: i, gain: k.gain(t, time)})
		}
	}
	return l
}

// gain returns the gain by a test at a time.
func (k *state) gain(t Test, time int) api.Span {
	seen := k.standards[t.Standard].at(t.Time)
	then := positive(quotient(thousandths(t.Reading), seen))
	return widened(then, k.drifts[t.Radar], t.Time, time)
}

// contradiction returns the first two tests whose gains have nothing in common.
// As gains are spans, there are such two wherever all of them together have
// nothing in common.
func contradiction(l []claim) (at [2]int) {
claims:
	for i, a := range l {
		for _, b := range l[i+1:] {
			if isEmpty(common(a.gain, b.gain)) {
				at = [2]int{a.test, b.test}
				break claims
			}
		}
	}
	return at
}

// Correct returns which powers there were behind a gain, if some were measured:
// ErrRange if powers or gains are out of range.
func Correct(power, gain api.Span) (api.Span, api.Errno) {
	everything := api.Span{Lo: 0, Hi: api.MaxPower}
	if !isWithin(power, everything) || !isWithin(gain, api.Span{Lo: 1, Hi: MaxGain}) {
		return api.Span{}, api.ErrRange
	}
	q := quotient(thousandths(power), gain)
	return api.Span{Lo: min(q.Lo, api.MaxPower), Hi: min(q.Hi, api.MaxPower)}, api.OK
}
