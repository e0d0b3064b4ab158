package cast

import "radome/api"

// known is what is known of the pixels of a cloud: how many of them are covered
// for sure, and at most, in a frame.
type known struct {
	sure counts
	may  counts
}

func knownOf(g api.Grid, c Cloud) known {
	within := frameOf(g, c.May)
	return known{sure: countsOf(g, within, setOf(c.Sure)), may: countsOf(g, within, setOf(c.May))}
}

// frameOf returns the least frame with some pixels, at least one.
func frameOf(g api.Grid, pixels []int) frame {
	f := frame{x: point(pixels[0] % g.Wide), y: point(pixels[0] / g.Wide)}
	for _, pixel := range pixels[1:] {
		f.x = hull().span(f.x, point(pixel%g.Wide))
		f.y = hull().span(f.y, point(pixel/g.Wide))
	}
	return f
}

// state returns the state of a pixel whose sources are a frame.
func (k known) state(from frame) state {
	if k.may.in(from) == 0 {
		return Clear
	}
	if k.sure.in(from) == from.size() {
		return Sure
	}
	return Maybe
}

// counts says how many pixels of a set are in any frame, without a look at each
// place of it.
type counts struct {
	within frame
	sums   []int // for each corner of pixels of within: how many pixels there are south-west of it
}

// countsOf returns the counts of a set all of which is within a frame.
func countsOf(g api.Grid, within frame, set map[int]bool) counts {
	wide, high := length(within.x), length(within.y)
	sums := make([]int, (wide+1)*(high+1))
	for y := range high {
		row := 0
		for x := range wide {
			if set[(within.y.Lo+y)*g.Wide+within.x.Lo+x] {
				row++
			}
			corner := (y+1)*(wide+1) + x + 1
			sums[corner] = sums[corner-wide-1] + row
		}
	}
	return counts{within: within, sums: sums}
}

// in returns how many pixels of the set are in a frame.
func (c counts) in(f frame) int {
	west, east, south, north := f.x.Lo, f.x.Hi+1, f.y.Lo, f.y.Hi+1
	return c.below(east, north) - c.below(west, north) - c.below(east, south) + c.below(west, south)
}

// below returns how many pixels of the set have a column below x, and a row below
// y.
func (c counts) below(x, y int) int {
	wide, high := length(c.within.x), length(c.within.y)
	x = min(max(x-c.within.x.Lo, 0), wide)
	y = min(max(y-c.within.y.Lo, 0), high)
	return c.sums[y*(wide+1)+x]
}
