package cell

import (
	"slices"

	"radome/api"
)

// chart says of the pixels of a grid which ones are in at a level, and to which
// areas those belong that may be in.
type chart struct {
	grid  api.Grid
	isIn  []bool  // of each pixel
	areas [][]int // their pixels
	owner []int   // the area of each pixel, or none
}

func chartOf(f api.Field, level int) *chart {
	c := &chart{grid: f.Grid, isIn: make([]bool, len(f.Vals)), owner: make([]int, len(f.Vals))}
	for pixel, s := range f.Vals {
		c.isIn[pixel] = s.Lo >= level
		c.owner[pixel] = none
	}
	c.areas = parts(f.Grid, func(pixel int) bool { return f.Vals[pixel].Hi >= level })
	for area, pixels := range c.areas {
		for _, pixel := range pixels {
			c.owner[pixel] = area
		}
	}
	return c
}

// Areas returns the areas of a field at a level; ErrRange if there is no such
// level.
func Areas(f api.Field, level int) ([]Area, api.Errno) {
	if e := checkLevel(f, level); e != api.OK {
		return nil, e
	}
	c := chartOf(f, level)
	l := make([]Area, len(c.areas))
	for i, pixels := range c.areas {
		l[i] = framed(f.Grid, pixels)
		l[i].Sum = c.sum(i, f.Vals)
	}
	for _, kernel := range parts(f.Grid, func(pixel int) bool { return c.isIn[pixel] }) {
		a := &l[c.owner[kernel[0]]]
		a.Kernels = append(a.Kernels, kernel)
	}
	return l, api.OK
}

// framed returns an area with some pixels, and with its frame.
func framed(g api.Grid, pixels []int) Area {
	first := spotOf(g, pixels[0])
	a := Area{Pixels: pixels, X: api.Span{Lo: first.x, Hi: first.x}, Y: api.Span{Lo: first.y, Hi: first.y}}
	for _, pixel := range pixels {
		at := spotOf(g, pixel)
		a.X = with(a.X, at.x)
		a.Y = with(a.Y, at.y)
	}
	return a
}

// sum returns the sum of an area.
func (c *chart) sum(area int, vals []api.Span) (sum api.Span) {
	for _, pixel := range c.areas[area] {
		if c.isIn[pixel] {
			sum.Lo += vals[pixel].Lo
		}
		sum.Hi += vals[pixel].Hi
	}
	return sum
}

// with returns the least span that has all of one, and a number.
func with(s api.Span, n int) api.Span {
	return api.Span{Lo: min(s.Lo, n), Hi: max(s.Hi, n)}
}

// Joined returns Yes, No or Open for two pixels of a field at a level; ErrRange
// if there is no such level, and ErrNone if there is no such pixel.
func Joined(f api.Field, level, p, q int) (int, api.Errno) {
	if e := checkPair(f, level, p, q); e != api.OK {
		return 0, e
	}
	switch chartOf(f, level).gap(p, q) {
	case none:
		return No, api.OK
	case 0: // along pixels all of which are in
		return Yes, api.OK
	}
	return Open, api.OK
}

// Gap returns how many pixels that are not in there are at least on a way from
// one pixel to another one; ErrRange if there is no such level, and ErrNone if
// there is no such pixel.
func Gap(f api.Field, level, p, q int) (int, api.Errno) {
	if e := checkPair(f, level, p, q); e != api.OK {
		return 0, e
	}
	return chartOf(f, level).gap(p, q), api.OK
}

// gap returns the gap between two pixels. Around the first one rings are found,
// each with the pixels of the same gap, until the other one is in a ring.
func (c *chart) gap(p, q int) int {
	if c.owner[p] == none || c.owner[p] != c.owner[q] {
		return none
	}
	gap, ring := 0, []int{p}
	if !c.isIn[p] {
		gap = 1
	}
	isFound := make([]bool, len(c.owner))
	isFound[p] = true
	for {
		whole, next := c.spread(ring, isFound)
		if slices.Contains(whole, q) {
			return gap
		}
		ring = next
		gap++
	}
}

// spread returns a ring with all that it leads to by pixels that are in, and the
// ring behind it; and notes what is found.
func (c *chart) spread(ring []int, isFound []bool) (whole, next []int) {
	whole = ring
	for i := 0; i < len(whole); i++ { // whole grows meanwhile
		for n := range neighbors(c.grid, whole[i]) {
			if isFound[n] || c.owner[n] == none {
				continue
			}
			isFound[n] = true
			if c.isIn[n] {
				whole = append(whole, n)
			} else {
				next = append(next, n)
			}
		}
	}
	return whole, next
}
