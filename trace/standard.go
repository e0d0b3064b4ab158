package trace

import (
	"radome/api"
	"radome/beam"
)

// standard is one that was entered.
type standard struct {
	Standard
	made        api.Span // its value when it was made
	isWithdrawn bool
}

// Define enters a standard: ErrFull, ErrName, ErrHave, ErrMany or ErrRange if
// it cannot be entered whatever it is made from; ErrNone if its parent does not
// exist, ErrStale if that was no longer valid then, and ErrOver if its value is
// too great.
func (b *Book) Define(s Standard) api.Errno {
	if e := b.checkRoom(); e != api.OK {
		return e
	}
	k := b.kept
	if e := k.checkStandard(s); e != api.OK {
		return e
	}
	made, e := k.madeOf(s)
	if e != api.OK {
		return e
	}
	k.standards[s.Name] = &standard{Standard: s, made: made}
	k.names = append(k.names, s.Name)
	k.note(func(to *Book) { to.Define(s) })
	return api.OK
}

// checkStandard returns the error of a new standard by itself.
func (k *state) checkStandard(s Standard) api.Errno {
	if !beam.Name(s.Name) {
		return api.ErrName
	}
	if k.standards[s.Name] != nil {
		return api.ErrHave
	}
	if len(k.names) >= MaxStandards {
		return api.ErrMany
	}
	most := MaxRatio
	if s.Parent == "" {
		most = MaxRoot
	}
	timed := isIn(s.Time, 0, api.MaxTime) && isIn(s.Until, s.Time, api.MaxTime)
	if !isWithin(s.Value, api.Span{Lo: 1, Hi: most}) || !timed || !isIn(s.Drift, 0, MaxDrift) {
		return api.ErrRange
	}
	return api.OK
}

// madeOf returns the value of a new standard when it is made, or why it cannot
// be made.
func (k *state) madeOf(s Standard) (api.Span, api.Errno) {
	if s.Parent == "" {
		return s.Value, api.OK
	}
	p, e := k.value(s.Parent, s.Time)
	if e != api.OK {
		return api.Span{}, e
	}
	made := quotient(api.Span{Lo: p.Lo * s.Value.Lo, Hi: p.Hi * s.Value.Hi}, only(1000))
	if made.Hi > MaxValue {
		return api.Span{}, api.ErrOver
	}
	return positive(made), api.OK
}

// Value returns the value of a standard at a time: ErrNone if it does not exist,
// and ErrStale if it is void, or not used then.
func (b *Book) Value(name string, time int) (api.Span, api.Errno) {
	if b.isNone() {
		return api.Span{}, api.ErrNil
	}
	return b.kept.value(name, time)
}

func (k *state) value(name string, time int) (api.Span, api.Errno) {
	s := k.standards[name]
	if s == nil {
		return api.Span{}, api.ErrNone
	}
	if k.void[name] || !isIn(time, s.Time, s.Until) {
		return api.Span{}, api.ErrStale
	}
	return s.at(time), api.OK
}

// at returns the value of a standard at a time at which it is used.
func (s *standard) at(time int) api.Span { return widened(s.made, s.Drift, s.Time, time) }

// Withdraw withdraws a standard: ErrFull, ErrNone if it does not exist, and
// ErrState if it is withdrawn already.
func (b *Book) Withdraw(name string) api.Errno {
	if e := b.mark(name, true); e != api.OK {
		return e
	}
	b.kept.note(func(to *Book) { to.Withdraw(name) })
	return api.OK
}

// Reinstate reinstates a standard: ErrFull, ErrNone if it does not exist, and
// ErrState if it is not withdrawn.
func (b *Book) Reinstate(name string) api.Errno {
	if e := b.mark(name, false); e != api.OK {
		return e
	}
	b.kept.note(func(to *Book) { to.Reinstate(name) })
	return api.OK
}

// mark says of a standard whether it is withdrawn, where the opposite holds so
// far.
func (b *Book) mark(name string, isWithdrawn bool) api.Errno {
	if e := b.checkRoom(); e != api.OK {
		return e
	}
	k := b.kept
	s := k.standards[name]
	if s == nil {
		return api.ErrNone
	}
	if s.isWithdrawn == isWithdrawn {
		return api.ErrState
	}
	s.isWithdrawn = isWithdrawn
	for _, other := range k.madeFrom(name) {
		if k.isBroken(other) {
			k.void[other] = true
		} else {
			delete(k.void, other)
		}
	}
	return api.OK
}
