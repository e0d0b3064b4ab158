package cell

import (
	"iter"
	"slices"

	"radome/api"
)

// spot is a pixel, or what lies beside the grid, by its column and its row.
type spot struct{ x, y int }

func spotOf(g api.Grid, pixel int) spot { return spot{pixel % g.Wide, pixel / g.Wide} }

func (s spot) moved(by Move) spot { return spot{s.x + by.X, s.y + by.Y} }

func (s spot) isOn(g api.Grid) bool { return isIn(s.x, 0, g.Wide-1) && isIn(s.y, 0, g.High-1) }

// number returns the number of the pixel at a spot on the grid.
func (s spot) number(g api.Grid) int { return s.y*g.Wide + s.x }

// neighbors yields the numbers of the neighbors of a pixel.
func neighbors(g api.Grid, pixel int) iter.Seq[int] {
	return func(yield func(int) bool) {
		at := spotOf(g, pixel)
		for _, side := range [...]Move{{Y: -1}, {X: -1}, {X: 1}, {Y: 1}} {
			if next := at.moved(side); next.isOn(g) && !yield(next.number(g)) {
				return
			}
		}
	}
}

// around yields the numbers of the pixels that differ from one by at most a
// reach in columns, and by at most a reach in rows.
func around(g api.Grid, pixel, reach int) iter.Seq[int] {
	return func(yield func(int) bool) {
		at := spotOf(g, pixel)
		for y := max(at.y-reach, 0); y <= min(at.y+reach, g.High-1); y++ {
			for x := max(at.x-reach, 0); x <= min(at.x+reach, g.Wide-1); x++ {
				if !yield(spot{x, y}.number(g)) {
					return
				}
			}
		}
	}
}

// parts returns the parts of the set of all pixels that belong to it.
func parts(g api.Grid, belongs func(pixel int) bool) [][]int {
	var l [][]int
	isFound := make([]bool, g.Wide*g.High)
	for pixel := range isFound {
		if !isFound[pixel] && belongs(pixel) {
			l = append(l, part(g, pixel, belongs, isFound))
		}
	}
	return l
}

// part returns the part of a set with a pixel of it, and notes what is found.
func part(g api.Grid, pixel int, belongs func(pixel int) bool, isFound []bool) []int {
	isFound[pixel] = true
	l := []int{pixel}
	for i := 0; i < len(l); i++ { // l grows meanwhile
		for next := range neighbors(g, l[i]) {
			if !isFound[next] && belongs(next) {
				isFound[next] = true
				l = append(l, next)
			}
		}
	}
	slices.Sort(l)
	return l
}
