package rain

import (
	"radome/api"
	"radome/beam"
	"radome/pulse"
)

// scene is a sweep, with all that there is between its echoes and the rain.
type scene struct {
	model  Model
	sweep  api.Sweep
	earth  api.Span
	ground api.Field
}

// Rates returns the rates of the gates of a ray: the error of the model, that
// of the sweep, and that of beam.Blocked.
func Rates(m Model, s api.Sweep, earth api.Span, ground api.Field, ray int) ([]api.Span, api.Errno) {
	c := scene{m, s, earth, ground}
	if e := c.check(); e != api.OK {
		return nil, e
	}
	return c.rates(ray)
}

// Map returns for each pixel of a grid the rate of the gate to which its middle
// belongs: the error of the model, that of the sweep, that of beam.Blocked for
// the first ray, and that of the grid.
func Map(m Model, s api.Sweep, earth api.Span, ground api.Field, g api.Grid) (api.Field, api.Errno) {
	c := scene{m, s, earth, ground}
	if e := c.check(); e != api.OK {
		return api.Field{}, e
	}
	if _, e := c.steps(0); e != api.OK {
		return api.Field{}, e
	}
	// The site and the tilt are valid by now, so an error is that of the grid.
	view, e := beam.View(s.Site, s.Tilt, g)
	if e != api.OK {
		return api.Field{}, e
	}
	vals, e := c.seen(view)
	if e != api.OK {
		return api.Field{}, e
	}
	return api.Field{Grid: g, Vals: vals}, api.OK
}

// check returns the error of the model, or else that of the sweep.
func (c scene) check() api.Errno {
	if e := CheckModel(c.model); e != api.OK {
		return e
	}
	return pulse.CheckSweep(c.sweep)
}

// seen returns for each pixel of a view the rate of its gate, and any rate if
// it has none. Rays are worked out when they are met, as a grid can be far away
// from most of them.
func (c scene) seen(view []int) ([]api.Span, api.Errno) {
	known := map[int][]api.Span{}
	vals := make([]api.Span, len(view))
	for pixel, number := range view {
		vals[pixel] = unknownRate()
		if number < 0 {
			continue
		}
		ray, gate := number/c.sweep.Site.Gates, number%c.sweep.Site.Gates
		l, isKnown := known[ray]
		if !isKnown {
			var e api.Errno
			if l, e = c.rates(ray); e != api.OK {
				return nil, e
			}
			known[ray] = l
		}
		vals[pixel] = l[gate]
	}
	return vals, api.OK
}

// rates returns the rates of the gates of a ray, or the error of beam.Blocked.
func (c scene) rates(ray int) ([]api.Span, api.Errno) {
	steps, e := c.steps(ray)
	if e != api.OK {
		return nil, e
	}
	var l []api.Span
	for _, x := range c.sweep.Rays[ray] {
		l = append(l, x.Power)
	}
	for _, s := range steps {
		l = s.done(l)
	}
	return l, api.OK
}

// steps returns all that becomes of the powers of a ray, in order.
func (c scene) steps(ray int) ([]step, api.Errno) {
	site, tilt := c.sweep.Site, c.sweep.Tilt
	blocked, e := beam.Blocked(site, tilt, c.earth, c.ground, ray)
	if e != api.OK {
		return nil, e
	}
	factors := make([]api.Span, site.Gates)
	for gate := range factors {
		band, e := beam.Band(site, tilt, c.earth, gate)
		if e != api.OK {
			return nil, e
		}
		factors[gate] = factor(c.model, band)
	}
	return []step{
		filling{2*site.Width + 1, blocked},
		restoring{worthOf(c.model.Loss)},
		falling{factors},
		raining{worthOf(c.model.Rate)},
	}, api.OK
}
