package rain

import "radome/api"

const (
	whole = 1 << 30 // the passage of the first gate
	parts = 65536   // of a power: so many of them can be lost in a gate
)

// Pass returns what is measured at each gate of a ray, from their powers: the
// error of the table of losses, ErrMany if there are too many gates, and
// ErrRange if a power is out of range.
func Pass(loss []Point, powers []int) ([]api.Span, api.Errno) {
	if e := checkRay(loss, len(powers)); e != api.OK {
		return nil, e
	}
	for _, z := range powers {
		if !isIn(z, 0, api.MaxPower) {
			return nil, api.ErrRange
		}
	}
	lost, passage := worthOf(loss), only(whole)
	measured := make([]api.Span, len(powers))
	for gate, z := range powers {
		measured[gate] = api.Span{Lo: z * passage.Lo / whole, Hi: up(z*passage.Hi, whole)}
		passage = behind(passage, lost(z))
	}
	return measured, api.OK
}

// Restore returns the powers of the gates of a ray, from what is measured at
// each: the error of the table of losses, ErrMany if there are too many gates,
// and ErrRange if a span is not valid, or out of range.
func Restore(loss []Point, measured []api.Span) ([]api.Span, api.Errno) {
	if e := checkRay(loss, len(measured)); e != api.OK {
		return nil, e
	}
	for _, m := range measured {
		if !isPower(m) {
			return nil, api.ErrRange
		}
	}
	return restoring{worthOf(loss)}.done(measured), api.OK
}

// checkRay returns the error of a table of losses, and ErrMany if a ray has
// too many gates.
func checkRay(loss []Point, gates int) api.Errno {
	if e := CheckTable(loss, MaxLoss); e != api.OK {
		return e
	}
	if gates > api.MaxGates {
		return api.ErrMany
	}
	return api.OK
}

// restored returns the power of a gate of which a part was measured.
func restored(measured, passage api.Span) api.Span {
	power := api.Span{Lo: min(api.MaxPower, measured.Lo*whole/passage.Hi), Hi: api.MaxPower}
	if passage.Lo >= MinPass {
		power.Hi = min(api.MaxPower, up(measured.Hi*whole, passage.Lo))
	}
	return power
}

// behind returns the passage of the next gate. Its Hi never becomes 0, as at
// most half of a power is lost in a gate.
func behind(passage, lost api.Span) api.Span {
	return api.Span{
		Lo: passage.Lo * (parts - lost.Hi) / parts,
		Hi: up(passage.Hi*(parts-lost.Lo), parts),
	}
}
