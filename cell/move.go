package cell

import "radome/api"

// Moves returns the moves that are possible for an area of a map and one of a
// later map; ErrShape if their grids are not equal, ErrRange if there is no such
// level or reach, and ErrNone if there is no such area.
func Moves(a, b api.Field, level, reach, i, j int) ([]Move, api.Errno) {
	if e := checkMaps(a, b, level, reach); e != api.OK {
		return nil, e
	}
	from, to := chartOf(a, level), chartOf(b, level)
	if !hasNumber(from.areas, i) || !hasNumber(to.areas, j) {
		return nil, api.ErrNone
	}
	return moves(from, to, reach, i, j), api.OK
}

// moves returns the moves that are possible for an area of a chart and one of a
// later chart.
func moves(a, b *chart, reach, i, j int) []Move {
	var l []Move
	from, to := a.core(i), b.core(j)
	for y := -reach; y <= reach; y++ {
		for x := -reach; x <= reach; x++ {
			if b.takes(j, from, Move{X: x, Y: y}) && a.takes(i, to, Move{X: -x, Y: -y}) {
				l = append(l, Move{X: x, Y: y})
			}
		}
	}
	return l
}

// core returns the spots of the pixels of an area that are in.
func (c *chart) core(area int) []spot {
	var l []spot
	for _, pixel := range c.areas[area] {
		if c.isIn[pixel] {
			l = append(l, spotOf(c.grid, pixel))
		}
	}
	return l
}

// takes reports whether all of some spots, moved, are pixels of an area, or not
// in the grid.
func (c *chart) takes(area int, spots []spot, by Move) bool {
	for _, s := range spots {
		if at := s.moved(by); at.isOn(c.grid) && c.owner[at.number(c.grid)] != area {
			return false
		}
	}
	return true
}

// Hull returns the spans of moves, which may be any ones; ErrEmpty if there are
// none.
func Hull(l []Move) (x, y api.Span, e api.Errno) {
	if len(l) == 0 {
		return api.Span{}, api.Span{}, api.ErrEmpty
	}
	x, y = api.Span{Lo: l[0].X, Hi: l[0].X}, api.Span{Lo: l[0].Y, Hi: l[0].Y}
	for _, m := range l {
		x = with(x, m.X)
		y = with(y, m.Y)
	}
	return x, y, api.OK
}
