package beam

import (
	"iter"
	"sort"

	"radome/api"
)

// Place returns the place of a gate; ErrRange if the tilt is not one of the
// site, or if there is no such ray or gate.
func Place(s api.Site, tilt, ray, gate int) (x, y int, e api.Errno) {
	if e := CheckSite(s); e != api.OK {
		return 0, 0, e
	}
	if !isTilt(tilt) || !isRay(s, ray) || !isGate(s, gate) {
		return 0, 0, api.ErrRange
	}
	v := place(s, tilt, ray, gate)
	return v.x, v.y, api.OK
}

// Find returns the gate to which a place belongs; ErrRange if the tilt is not
// one of the site, or if the place is out of range; ErrFar if it belongs to
// no gate.
func Find(s api.Site, tilt, x, y int) (ray, gate int, e api.Errno) {
	const far = 4 * api.MaxPlace
	if e := CheckSite(s); e != api.OK {
		return 0, 0, e
	}
	if !isTilt(tilt) || !isIn(x, -far, far) || !isIn(y, -far, far) {
		return 0, 0, api.ErrRange
	}
	ray, gate, ok := find(s, borders(s, tilt), vector{x, y})
	if !ok {
		return 0, 0, api.ErrFar
	}
	return ray, gate, api.OK
}

// Pixel returns the number of the pixel in which a place is; ErrFar if it is
// not in the grid.
func Pixel(g api.Grid, x, y int) (int, api.Errno) {
	if e := CheckGrid(g); e != api.OK {
		return 0, e
	}
	n, ok := pixel(g, vector{x, y})
	if !ok {
		return 0, api.ErrFar
	}
	return n, api.OK
}

// View returns for each pixel of a grid the number of the gate to which its
// middle belongs, counted through all rays, and -1 if it belongs to none;
// ErrRange if the tilt is not one of the site.
func View(s api.Site, tilt int, g api.Grid) ([]int, api.Errno) {
	if e := CheckSite(s); e != api.OK {
		return nil, e
	}
	if e := CheckGrid(g); e != api.OK {
		return nil, e
	}
	if !isTilt(tilt) {
		return nil, api.ErrRange
	}
	ends := borders(s, tilt)
	view := make([]int, g.Wide*g.High)
	for n := range view {
		view[n] = -1
		if ray, gate, ok := find(s, ends, middle(g, n)); ok {
			view[n] = ray*s.Gates + gate
		}
	}
	return view, api.OK
}

// place returns the place of a gate.
func place(s api.Site, tilt, ray, gate int) vector {
	down, _ := roundings()
	far := run(s, tilt, gate, down)
	axis, length := towards(2*s.Rose, 2*ray+1)
	return vector{s.X + down(far*axis.x, length), s.Y + down(far*axis.y, length)}
}

// gates yields the gates of a ray with their places.
func gates(s api.Site, tilt, ray int) iter.Seq2[int, vector] {
	return func(yield func(int, vector) bool) {
		for gate := range s.Gates {
			if !yield(gate, place(s, tilt, ray, gate)) {
				return
			}
		}
	}
}

// borders returns the distances between which the gates of a ray are.
func borders(s api.Site, tilt int) []int {
	down, _ := roundings()
	c, _, d := slant(tilt)
	l := make([]int, s.Gates+1)
	for j := range l {
		l[j] = down(j*s.Step*c, d)
	}
	return l
}

// find returns the gate to which a place belongs, if there is one.
func find(s api.Site, borders []int, at vector) (ray, gate int, ok bool) {
	v := vector{at.x - s.X, at.y - s.Y}
	square := v.x*v.x + v.y*v.y
	beyond := sort.Search(len(borders), func(j int) bool { return square < borders[j]*borders[j] })
	if beyond == len(borders) {
		return 0, 0, false
	}
	return sector(s.Rose, v), beyond - 1, true
}

// pixel returns the number of the pixel in which a place is, if there is one.
func pixel(g api.Grid, at vector) (n int, ok bool) {
	// The ends are compared before anything is subtracted from a coordinate,
	// which may be any number.
	if !isIn(at.x, g.X, g.X+g.Wide*g.Size-1) || !isIn(at.y, g.Y, g.Y+g.High*g.Size-1) {
		return 0, false
	}
	return (at.y-g.Y)/g.Size*g.Wide + (at.x-g.X)/g.Size, true
}

// middle returns the middle of a pixel.
func middle(g api.Grid, n int) vector {
	return vector{g.X + n%g.Wide*g.Size + g.Size/2, g.Y + n/g.Wide*g.Size + g.Size/2}
}

func isRay(s api.Site, ray int) bool { return isIn(ray, 0, 4*s.Rose-1) }
