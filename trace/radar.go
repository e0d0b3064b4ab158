package trace

import (
	"radome/api"
	"radome/beam"
)

// Radar enters a radar: ErrFull, ErrName if its name is none, ErrHave if there
// is one with it, ErrMany if there are too many, and ErrRange if it cannot
// drift so.
func (b *Book) Radar(name string, drift int) api.Errno {
	if e := b.checkRoom(); e != api.OK {
		return e
	}
	k := b.kept
	if !beam.Name(name) {
		return api.ErrName
	}
	if _, exists := k.drifts[name]; exists {
		return api.ErrHave
	}
	if len(k.drifts) >= MaxRadars {
		return api.ErrMany
	}
	if !isIn(drift, 0, MaxDrift) {
		return api.ErrRange
	}
	k.drifts[name] = drift
	k.note(func(to *Book) { to.Radar(name, drift) })
	return api.OK
}

// Test enters a test, and returns its number: ErrFull, ErrNone if its radar or
// its standard does not exist, ErrMany if there are too many, ErrRange if its
// numbers are out of range, and ErrStale if its standard is void, or not used
// then.
func (b *Book) Test(t Test) (int, api.Errno) {
	if e := b.checkRoom(); e != api.OK {
		return 0, e
	}
	k := b.kept
	if e := k.checkTest(t); e != api.OK {
		return 0, e
	}
	k.tests = append(k.tests, t)
	k.note(func(to *Book) { to.Test(t) })
	return len(k.tests) - 1, api.OK
}

// checkTest returns the error of a new test.
func (k *state) checkTest(t Test) api.Errno {
	if _, exists := k.drifts[t.Radar]; !exists || k.standards[t.Standard] == nil {
		return api.ErrNone
	}
	if len(k.tests) >= MaxTests {
		return api.ErrMany
	}
	if !isIn(t.Time, 0, api.MaxTime) || !isWithin(t.Reading, api.Span{Lo: 1, Hi: MaxValue}) {
		return api.ErrRange
	}
	_, e := k.value(t.Standard, t.Time)
	return e
}
