package volume

import (
	"radome/api"
	"radome/beam"
	"radome/pulse"
)

// Check returns ErrArg if there is no such kind of items, or if an item has what
// its kind does not have; then the error of what it has.
func Check(x Item) api.Errno {
	if !isKind(x.Kind) || !isEmpty(others(x)) {
		return api.ErrArg
	}
	return contentOf(x).check()
}

// others returns an item without what its kind has.
func others(x Item) Item {
	switch x.Kind {
	case Sweep:
		x.Sweep = api.Sweep{}
	case Field:
		x.Name, x.Time, x.Field = "", 0, api.Field{}
	case Note:
		x.Time, x.Text = 0, ""
	}
	return x
}

// isEmpty reports whether an item has nothing but its kind.
func isEmpty(x Item) bool {
	hasSweep := x.Sweep.Site != (api.Site{}) || x.Sweep.Tilt != 0 || x.Sweep.Time != 0 || len(x.Sweep.Rays) > 0
	hasField := x.Field.Grid != (api.Grid{}) || len(x.Field.Vals) > 0
	return x.Name == "" && x.Time == 0 && !hasSweep && !hasField && x.Text == ""
}

func (s sweep) check() api.Errno { return pulse.CheckSweep(s.Sweep) }

func (f field) check() api.Errno {
	if !beam.Name(f.name) {
		return api.ErrName
	}
	if !isTime(f.time) {
		return api.ErrRange
	}
	return beam.CheckField(f.Field)
}

func (n note) check() api.Errno {
	if !isTime(n.time) {
		return api.ErrRange
	}
	if len(n.text) > MaxNote {
		return api.ErrLong
	}
	for _, c := range []byte(n.text) {
		if c < ' ' || c > '~' {
			return api.ErrForm
		}
	}
	return api.OK
}

func isKind(n int) bool { return isIn(n, Sweep, Note) }

func isTime(n int) bool { return isIn(n, 0, api.MaxTime) }

// isWithin reports whether a span is valid, and within another one.
func isWithin(s, outer api.Span) bool {
	return outer.Lo <= s.Lo && s.Lo <= s.Hi && s.Hi <= outer.Hi
}

func isIn(n, least, most int) bool { return least <= n && n <= most }
