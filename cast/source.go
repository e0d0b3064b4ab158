package cast

import (
	"iter"

	"radome/api"
)

// frame is a rectangle of places, which can be outside of the grid.
type frame struct {
	x api.Span // columns
	y api.Span // rows
}

func (f frame) size() int { return length(f.x) * length(f.y) }

func length(s api.Span) int { return s.Hi - s.Lo + 1 }

// sources yields the frames of the sources of some pixels at some leads, numbered
// from 0 on: those of all these pixels at the first lead, then at the next one. As
// all places of a frame are sources, they are not yielded one by one; there can be
// millions.
func sources(g api.Grid, c Cloud, pixels, leads api.Span) iter.Seq2[int, frame] {
	return func(yield func(int, frame) bool) {
		number := 0
		for lead := leads.Lo; lead <= leads.Hi; lead++ {
			x, y := shift(c.Flow.X, c.Grow, lead), shift(c.Flow.Y, c.Grow, lead)
			for pixel := pixels.Lo; pixel <= pixels.Hi; pixel++ {
				if !yield(number, frame{x: before(pixel%g.Wide, x), y: before(pixel/g.Wide, y)}) {
					return
				}
				number++
			}
		}
	}
}

// shift returns by how many columns, or rows, something can have moved into a
// pixel behind some seconds. Above a distance less one side means from its
// quotient rounded down on, as only whole sides count; likewise at the other end.
func shift(rush api.Span, grow, seconds int) api.Span {
	return api.Span{Lo: down((rush.Lo-grow)*seconds, side), Hi: up((rush.Hi+grow)*seconds, side)}
}

// before returns where what is at n now was before a shift.
func before(n int, by api.Span) api.Span { return api.Span{Lo: n - by.Hi, Hi: n - by.Lo} }

func point(n int) api.Span { return api.Span{Lo: n, Hi: n} }
