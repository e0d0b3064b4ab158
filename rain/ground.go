package rain

import "radome/api"

// Fill returns the power that a beam with so many threads would have brought
// back if none of them were blocked; ErrRange if the power, the number of
// threads, or that of those that are blocked is out of range.
func Fill(power api.Span, threads int, blocked api.Span) (api.Span, api.Errno) {
	if !isPower(power) || !isIn(threads, 1, 2*api.MaxWidth+1) || !isWithin(blocked, api.Span{Lo: 0, Hi: threads}) {
		return api.Span{}, api.ErrRange
	}
	return filled(power, threads, blocked), api.OK
}

// Factor returns by how much power changes from a band of heights down to the
// ground; ErrRange if the band is not valid.
func Factor(m Model, band api.Span) (api.Span, api.Errno) {
	if e := CheckModel(m); e != api.OK {
		return api.Span{}, e
	}
	if band.Lo > band.Hi {
		return api.Span{}, api.ErrRange
	}
	return factor(m, band), api.OK
}

// filled returns what a power becomes without what is in the way of the beam.
func filled(power api.Span, threads int, blocked api.Span) api.Span {
	// What was heard came through one thread at least.
	open := max(1, threads-blocked.Lo)
	s := api.Span{Lo: min(api.MaxPower, power.Lo*threads/open), Hi: api.MaxPower}
	if open := threads - blocked.Hi; open > 0 {
		s.Hi = min(api.MaxPower, up(power.Hi*threads, open))
	}
	return s
}

// factor returns the hull of the factors of all that a band has a part in:
// what is below the layer in which snow melts, this layer, and what is above.
func factor(m Model, band api.Span) api.Span {
	var l []api.Span
	if band.Lo < m.Melt.Lo {
		l = append(l, only(1000))
	}
	if band.Lo <= m.Melt.Hi && m.Melt.Lo <= band.Hi {
		l = append(l, m.In)
	}
	if band.Hi > m.Melt.Hi {
		l = append(l, m.Above)
	}
	return hull(l[0], l[1:]...)
}

// fallen returns the power near the ground, from that aloft.
func fallen(power, factor api.Span) api.Span {
	return api.Span{
		Lo: min(api.MaxPower, power.Lo*factor.Lo/1000),
		Hi: min(api.MaxPower, up(power.Hi*factor.Hi, 1000)),
	}
}
