package beam_test

import (
	"math"
	"slices"
	"testing"

	"radome/api"
	"radome/beam"
)

// raysToTry are all rays of a site, or some of each quarter.
func raysToTry(s api.Site) []int {
	var l []int
	for a := range 4 * s.Rose {
		if s.Rose < 10 || a%s.Rose < 2 || a%s.Rose > s.Rose-3 || a%23 == 0 {
			l = append(l, a)
		}
	}
	return l
}

// P1.4: places, against their definition.
func TestPlace(t *testing.T) {
	for _, s := range sites() {
		for _, tilt := range tilts() {
			for _, a := range raysToTry(s) {
				for _, j := range gatesToTry(s) {
					x, y, e := beam.Place(s, tilt, a, j)
					if wantX, wantY := wantPlace(s, tilt, a, j); x != wantX || y != wantY || e != api.OK {
						t.Fatalf("Place of %s, %d, %d, %d: %d %d %d", s.Name, tilt, a, j, x, y, e)
					}
				}
			}
		}
	}
}

// P1.4: the example, and quotients that are rounded down on both sides of zero.
func TestPlaceExamples(t *testing.T) {
	s := example()
	for ray, want := range map[int][2]int{0: {705, 1323}, 4: {-706, -1324}, 2: {1323, -706}, 6: {-1324, 705}} {
		if x, y, e := beam.Place(s, 0, ray, 1); x != want[0] || y != want[1] || e != api.OK {
			t.Errorf("Place of the ray %d: %d %d %d", ray, x, y, e)
		}
	}
	s.X, s.Y = 1000, -3
	if x, y, _ := beam.Place(s, 0, 4, 1); x != 294 || y != -1327 {
		t.Errorf("Place of a site elsewhere: %d %d", x, y)
	}
}

// P1.4: the ends of tilts, rays and gates.
func TestPlaceErrors(t *testing.T) {
	for _, s := range sites() {
		try := func(tilt, ray, gate int) {
			t.Helper()
			want := api.ErrRange
			if tilt >= 0 && tilt <= 256 && ray >= 0 && ray < 4*s.Rose && gate >= 0 && gate < s.Gates {
				want = api.OK
			}
			if x, y, e := beam.Place(s, tilt, ray, gate); e != want || e != api.OK && (x != 0 || y != 0) {
				t.Errorf("Place of %s, %d, %d, %d: %d %d %d", s.Name, tilt, ray, gate, x, y, e)
			}
		}
		for _, n := range append(extremes(), 256, 257, -8, 264) {
			try(n, 0, 0)
		}
		for _, n := range append(extremes(), 4*s.Rose-1, 4*s.Rose, 4*s.Rose+1) {
			try(0, n, 0)
		}
		for _, n := range append(extremes(), s.Gates-1, s.Gates, s.Gates+1) {
			try(0, 0, n)
		}
	}
}

// P1.5, P1.9: each place belongs to the one gate that the definition says, or
// to none.
func TestFind(t *testing.T) {
	for _, s := range sites() {
		for _, tilt := range tilts() {
			borders := wantBorders(s, tilt)
			for _, p := range places(s, tilt) {
				rays, gates := raysOf(s, p[0], p[1]), gatesOf(s, borders, p[0], p[1])
				if p == [2]int{s.X, s.Y} {
					rays = []int{0}
				}
				ray, gate, e := beam.Find(s, tilt, p[0], p[1])
				if len(gates) == 0 {
					if e != api.ErrFar || ray != 0 || gate != 0 {
						t.Fatalf("Find in %s, %d, %v: %d %d %d", s.Name, tilt, p, ray, gate, e)
					}
					continue
				}
				if e != api.OK || !slices.Equal(rays, []int{ray}) || !slices.Equal(gates, []int{gate}) {
					t.Fatalf("Find in %s, %d, %v: %d %d %d, want %v %v", s.Name, tilt, p, ray, gate, e, rays, gates)
				}
			}
		}
	}
}

// P1.5: the examples, the first and the last ray, gate and border.
func TestFindExamples(t *testing.T) {
	for _, x := range []struct {
		tilt, x, y, ray, gate int
		e                     api.Errno
	}{
		{0, 705, 1323, 0, 1, api.OK}, {0, 1000, 0, 2, 1, api.OK}, {0, 0, 0, 0, 0, api.OK}, {0, 0, 4000, 0, 0, api.ErrFar},
		{0, 0, 1, 0, 0, api.OK}, {0, -1, 1000, 7, 1, api.OK}, {0, -1, 999, 7, 0, api.OK},
		{0, 0, 999, 0, 0, api.OK}, {0, 0, 1000, 0, 1, api.OK}, {0, 0, 3999, 0, 3, api.OK},
		{0, 2400, 3200, 0, 0, api.ErrFar}, {0, 2399, 3200, 0, 3, api.OK},
		{256, 0, 599, 0, 0, api.OK}, {256, 0, 600, 0, 1, api.OK}, {256, 0, 2399, 0, 3, api.OK}, {256, 0, 2400, 0, 0, api.ErrFar},
		{0, 4, 3, 1, 0, api.OK}, {0, 3, 3, 0, 0, api.OK}, {0, 5, 3, 1, 0, api.OK}, {0, -4, -3, 5, 0, api.OK}, {0, -3, 4, 7, 0, api.OK},
	} {
		if ray, gate, e := beam.Find(example(), x.tilt, x.x, x.y); ray != x.ray || gate != x.gate || e != x.e {
			t.Errorf("Find(%d, %d, %d): %d %d %d", x.tilt, x.x, x.y, ray, gate, e)
		}
	}
}

// P1.5: tilts and places out of range; a place out of range is not called far away.
func TestFindErrors(t *testing.T) {
	const far = 4194304
	for _, s := range sites() {
		try := func(tilt, x, y int, want api.Errno) {
			t.Helper()
			if ray, gate, e := beam.Find(s, tilt, x, y); e != want || ray != 0 || gate != 0 {
				t.Errorf("Find in %s, %d, %d, %d: %d %d %d", s.Name, tilt, x, y, ray, gate, e)
			}
		}
		for _, n := range []int{-1, 257, 264, -8, math.MinInt, math.MaxInt} {
			try(n, s.X, s.Y, api.ErrRange)
			try(n, far, 0, api.ErrRange)
		}
		for _, n := range []int{-far, far} {
			try(0, n, 0, api.ErrFar)
			try(0, 0, n, api.ErrFar)
			try(0, n, n, api.ErrFar)
			try(0, n, -n, api.ErrFar)
		}
		for _, n := range []int{-far - 1, far + 1, math.MinInt, math.MaxInt} {
			try(0, n, 0, api.ErrRange)
			try(0, 0, n, api.ErrRange)
			try(0, n, far, api.ErrRange)
		}
	}
}

// P1.9: exactly one gate, from the site to the last border, and the same gate
// of the ray that is a quarter further if the place is turned by a quarter.
func TestFindQuarters(t *testing.T) {
	for _, s := range sites() {
		for _, tilt := range tilts() {
			last := wantBorder(s, tilt, s.Gates)
			for _, p := range places(s, tilt) {
				x, y := p[0]-s.X, p[1]-s.Y
				ray, gate, e := beam.Find(s, tilt, p[0], p[1])
				if inside := x*x+y*y < last*last; inside != (e == api.OK) {
					t.Fatalf("Find in %s, %d, %v: %d", s.Name, tilt, p, e)
				}
				if x == 0 && y == 0 {
					if ray != 0 || gate != 0 {
						t.Fatalf("the place of the site: %d %d", ray, gate)
					}
					continue
				}
				further, same, e2 := beam.Find(s, tilt, s.X+y, s.Y-x)
				if e2 != e || e == api.OK && (same != gate || further != (ray+s.Rose)%(4*s.Rose)) {
					t.Fatalf("Find in %s, %d, %v: %d %d, turned %d %d", s.Name, tilt, p, ray, gate, further, same)
				}
			}
		}
	}
}

// P1.5: each place of a grid is in one pixel, and places beyond are in none.
func TestPixel(t *testing.T) {
	for _, g := range []api.Grid{{X: -5, Y: 3, Size: 3, Wide: 4, High: 2}, {Size: 1, Wide: 1, High: 1}, {X: 7, Y: -20, Size: 2, Wide: 1, High: 5}} {
		for x := g.X - 3; x < g.X+g.Wide*g.Size+3; x++ {
			for y := g.Y - 3; y < g.Y+g.High*g.Size+3; y++ {
				want, wantE := 0, api.ErrFar
				for n := range g.Wide * g.High {
					fromX, fromY := g.X+n%g.Wide*g.Size, g.Y+n/g.Wide*g.Size
					if fromX <= x && x < fromX+g.Size && fromY <= y && y < fromY+g.Size {
						want, wantE = n, api.OK
					}
				}
				if n, e := beam.Pixel(g, x, y); n != want || e != wantE {
					t.Fatalf("Pixel of %v, %d, %d: %d %d, want %d %d", g, x, y, n, e, want, wantE)
				}
			}
		}
	}
}

// P1.5: the examples, the ends of the largest grid, and any numbers.
func TestPixelExamples(t *testing.T) {
	small := api.Grid{X: -5000, Y: -5000, Size: 5000, Wide: 2, High: 2}
	large := api.Grid{X: api.MaxPlace, Y: -api.MaxPlace, Size: 10000, Wide: 64, High: 64}
	for _, x := range []struct {
		g          api.Grid
		x, y, want int
		e          api.Errno
	}{
		{small, 0, 0, 3, api.OK}, {small, -1, 0, 2, api.OK}, {small, 5000, 0, 0, api.ErrFar}, {small, 0, -1, 1, api.OK},
		{small, -5000, -5000, 0, api.OK}, {small, -5001, -5000, 0, api.ErrFar}, {small, -5000, -5001, 0, api.ErrFar}, {small, 0, 5000, 0, api.ErrFar}, {small, 4999, 4999, 3, api.OK},
		{large, api.MaxPlace, -api.MaxPlace, 0, api.OK}, {large, api.MaxPlace + 639999, -api.MaxPlace + 639999, 4095, api.OK}, {large, api.MaxPlace + 640000, -api.MaxPlace, 0, api.ErrFar}, {large, api.MaxPlace, -api.MaxPlace + 640000, 0, api.ErrFar},
		{api.Grid{Size: 0, Wide: 1, High: 1}, 9, 9, 0, api.ErrRange}, {api.Grid{}, 0, 0, 0, api.ErrRange},
	} {
		if n, e := beam.Pixel(x.g, x.x, x.y); n != x.want || e != x.e {
			t.Errorf("Pixel of %v, %d, %d: %d %d", x.g, x.x, x.y, n, e)
		}
	}
	for _, n := range []int{math.MinInt, math.MinInt + 1, math.MaxInt - 1, math.MaxInt} {
		for _, p := range [][2]int{{n, 0}, {0, n}, {n, n}, {n, -n}} {
			if k, e := beam.Pixel(small, p[0], p[1]); k != 0 || e != api.ErrFar {
				t.Errorf("Pixel(%v): %d %d", p, k, e)
			}
		}
	}
}

// coordinate returns the coordinate of a grid that is closest to a number.
func coordinate(n int) int { return max(-api.MaxPlace, min(api.MaxPlace, n)) }

// P1.6: what Find says of the middle of each pixel.
func TestView(t *testing.T) {
	for _, s := range sites() {
		for _, g := range []api.Grid{
			{X: s.X, Y: s.Y, Size: 1, Wide: 1, High: 1},
			{X: coordinate(s.X - 1), Y: coordinate(s.Y - 1), Size: 1, Wide: 3, High: 3},
			{X: coordinate(s.X - 3500), Y: coordinate(s.Y - 2500), Size: 501, Wide: 14, High: 9},
			{X: coordinate(s.X - 9*64), Y: coordinate(s.Y + 7), Size: 10000, Wide: 2, High: 64},
		} {
			for _, tilt := range []int{0, 77, api.MaxTilt} {
				l, e := beam.View(s, tilt, g)
				if len(l) != g.Wide*g.High || e != api.OK {
					t.Fatalf("View of %s, %v: %d, error %d", s.Name, g, len(l), e)
				}
				for n, got := range l {
					x, y := g.X+n%g.Wide*g.Size+g.Size/2, g.Y+n/g.Wide*g.Size+g.Size/2
					ray, gate, e := beam.Find(s, tilt, x, y)
					if e == api.OK && got != ray*s.Gates+gate || e != api.OK && got != -1 {
						t.Fatalf("View of %s, %v, pixel %d: %d, want %d %d", s.Name, g, n, got, ray, gate)
					}
				}
			}
		}
	}
}

// P1.6: the example, the first gate and the last one, and what is far away.
func TestViewExamples(t *testing.T) {
	for _, x := range []struct {
		g    api.Grid
		want []int
	}{
		{api.Grid{X: -5000, Y: -5000, Size: 5000, Wide: 2, High: 2}, []int{19, 11, 27, 3}},
		{api.Grid{X: 0, Y: 0, Size: 1, Wide: 1, High: 1}, []int{0}},
		{api.Grid{X: -1, Y: 0, Size: 1, Wide: 2, High: 1}, []int{24, 0}},
		{api.Grid{X: -1, Y: 3999, Size: 1, Wide: 2, High: 2}, []int{31, 3, -1, -1}},
		{api.Grid{X: -89, Y: 3999, Size: 1, Wide: 1, High: 1}, []int{31}},
		{api.Grid{X: -90, Y: 3999, Size: 1, Wide: 1, High: 1}, []int{-1}},
		{api.Grid{X: 100, Y: -9000, Size: 10000, Wide: 1, High: 1}, []int{-1}},
	} {
		if l, e := beam.View(example(), 0, x.g); !slices.Equal(l, x.want) || e != api.OK {
			t.Errorf("View of %v: %v %d, want %v", x.g, l, e, x.want)
		}
	}
}

// P1.6: errors of the site, of the grid and of the tilt.
func TestViewErrors(t *testing.T) {
	g := api.Grid{Size: 1, Wide: 1, High: 1}
	for _, tilt := range []int{-1, 257, -8, 264, math.MinInt, math.MaxInt} {
		if l, e := beam.View(example(), tilt, g); e != api.ErrRange || len(l) != 0 {
			t.Errorf("View at the tilt %d: %v %d", tilt, l, e)
		}
	}
	for _, bad := range []api.Grid{{}, {Size: 1, Wide: 65, High: 1}, {X: api.MaxPlace + 1, Size: 1, Wide: 1, High: 1}} {
		if l, e := beam.View(example(), 0, bad); e != api.ErrRange || len(l) != 0 {
			t.Errorf("View of %v: %v %d", bad, l, e)
		}
		if l, e := beam.View(api.Site{}, 0, bad); e != api.ErrName || len(l) != 0 {
			t.Errorf("View of no site: %v %d", l, e)
		}
	}
	for _, tilt := range []int{0, 256} {
		if _, e := beam.View(example(), tilt, g); e != api.OK {
			t.Errorf("View at the tilt %d: %d", tilt, e)
		}
	}
}
