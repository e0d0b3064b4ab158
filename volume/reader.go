package volume

import (
	"slices"

	"radome/api"
	"radome/beam"
	"radome/pulse"
)

// wrong is what ends the reading of a body: what is wrong with it.
type wrong api.Errno

// reader takes the bytes of a body, from the first one on. A list can be some
// thousand times as long as its bytes, so only a reader that is asked to keeps the
// lists that it reads.
type reader struct {
	rest  []byte
	keeps bool
}

// readBody returns what the item of a body has, perhaps without its lists; or
// ErrForm if the bytes are not the body of an item.
func readBody(b []byte, keeps bool) (c content, e api.Errno) {
	defer func() {
		if x := recover(); x != nil {
			w, isWrong := x.(wrong)
			if !isWrong { // no matter of the bytes
				panic(x)
			}
			c, e = nil, api.Errno(w)
		}
	}()
	r := &reader{b, keeps}
	c = r.content()
	insist(len(r.rest) == 0)
	return c, api.OK
}

// insist ends the reading unless something is so.
func insist(isSo bool) {
	if !isSo {
		panic(wrong(api.ErrForm))
	}
}

func (r *reader) content() content {
	kind := r.number()
	insist(isKind(kind))
	switch kind {
	case Sweep:
		return r.sweep()
	case Field:
		return r.field()
	default:
		return r.note()
	}
}

func (r *reader) sweep() sweep {
	site := api.Site{
		Name: r.text(), X: r.integer(), Y: r.integer(),
		Z: r.number(), Rose: r.number(), Gates: r.number(), Step: r.number(), Width: r.number(),
	}
	insist(beam.CheckSite(site) == api.OK)
	s := api.Sweep{Site: site, Tilt: r.number(), Time: r.number()}
	insist(isIn(s.Tilt, 0, api.MaxTilt) && isTime(s.Time))
	echoes := readList(r, 4*site.Rose*site.Gates, silence(), r.echo)
	s.Rays = slices.Collect(slices.Chunk(echoes, site.Gates))
	return sweep{s}
}

func (r *reader) field() field {
	f := field{name: r.text(), time: r.number()}
	insist(beam.Name(f.name) && isTime(f.time))
	f.Grid = api.Grid{X: r.integer(), Y: r.integer(), Size: r.number(), Wide: r.number(), High: r.number()}
	insist(beam.CheckGrid(f.Grid) == api.OK)
	f.Vals = readList(r, f.Grid.Wide*f.Grid.High, api.Span{}, r.value)
	return f
}

func (r *reader) note() note {
	n := note{time: r.number(), text: r.text()}
	insist(n.check() == api.OK)
	return n
}

// readList takes a list of so many things, with another one ahead of them.
func readList[T comparable](r *reader, count int, before T, take func() T) []T {
	var l []T
	keep := func(x T, times int) {
		if !r.keeps {
			return
		}
		for range times {
			l = append(l, x)
		}
	}
	for left := count; left > 0; {
		equal := r.number()
		insist(equal <= left)
		keep(before, equal)
		if left -= equal; left > 0 {
			next := take()
			insist(next != before) // it would belong to those that are equal
			keep(next, 1)
			before = next
			left--
		}
	}
	return l
}

func (r *reader) echo() api.Echo {
	x := api.Echo{Kind: r.number()}
	if x.Kind == api.Quiet {
		x.Power.Hi = r.number()
	} else {
		x.Power, x.Ratio, x.Match, x.Spread = r.span(), r.span(), r.span(), r.number()
	}
	if x.Kind == api.Clear {
		x.Steps, x.Turn = [2]api.Span{r.span(), r.span()}, r.span()
	}
	insist(pulse.CheckEcho(x) == api.OK)
	return x
}

// value takes the span of a pixel.
func (r *reader) value() api.Span {
	s := r.span()
	insist(isWithin(s, api.Span{Lo: 0, Hi: api.MaxPower}))
	return s
}

func (r *reader) span() api.Span {
	lo := r.integer()
	return api.Span{Lo: lo, Hi: lo + r.number()}
}

func (r *reader) text() string {
	size := r.number()
	insist(size <= len(r.rest))
	s := string(r.rest[:size])
	r.rest = r.rest[size:]
	return s
}

func (r *reader) integer() int { return integer(r.number()) }

func (r *reader) number() int {
	n, rest, isNumber := cutNumber(r.rest)
	insist(isNumber)
	r.rest = rest
	return n
}
