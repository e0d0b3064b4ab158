package beam_test

import (
	"testing"

	"radome/api"
	"radome/beam"
)

// P1.2: all directions of all roses.
func TestDirection(t *testing.T) {
	for n := 1; n <= 180; n++ {
		for a := range 4 * n {
			x, y, l, e := beam.Direction(n, a)
			wantX, wantY, wantL := wantDirection(n, a)
			if x != wantX || y != wantY || l != wantL || e != api.OK {
				t.Fatalf("Direction(%d, %d): %d %d %d %d", n, a, x, y, l, e)
			}
		}
	}
}

// P1.2: the examples, and the four quarters by their names.
func TestDirectionExamples(t *testing.T) {
	for _, x := range [][5]int{
		{1, 0, 0, 1, 1}, {2, 1, 4, 3, 5}, {2, 3, 3, -4, 5},
		{7, 0, 0, 49, 49}, {7, 7, 49, 0, 49}, {7, 14, 0, -49, 49}, {7, 21, -49, 0, 49},
	} {
		if dx, dy, l, e := beam.Direction(x[0], x[1]); dx != x[2] || dy != x[3] || l != x[4] || e != api.OK {
			t.Errorf("Direction(%d, %d): %d %d %d %d", x[0], x[1], dx, dy, l, e)
		}
	}
}

// P1.2: numbers just beyond the ends, and far beyond them.
func TestDirectionErrors(t *testing.T) {
	wrong := [][2]int{{0, 0}, {-1, 0}, {181, 0}, {1, 4}, {1, -1}, {90, 360}, {180, 720}, {180, -1}, {0, -1}}
	for _, n := range extremes() {
		if n < 1 || n > 180 {
			wrong = append(wrong, [2]int{n, 0}, [2]int{n, 1})
		}
		if n < 0 || n > 3 {
			wrong = append(wrong, [2]int{1, n})
		}
	}
	for _, x := range wrong {
		if dx, dy, l, e := beam.Direction(x[0], x[1]); e != api.ErrRange || dx != 0 || dy != 0 || l != 0 {
			t.Errorf("Direction(%d, %d): %d %d %d %d", x[0], x[1], dx, dy, l, e)
		}
	}
	if _, _, _, e := beam.Direction(180, 719); e != api.OK {
		t.Errorf("the last direction of the largest rose: %d", e)
	}
}

// P1.8: lengths, turns by a quarter, the order of directions, and the same
// directions in a rose of twice the order.
func TestDirectionProperties(t *testing.T) {
	for n := 1; n <= 180; n++ {
		for a := range 4 * n {
			x, y, l, _ := beam.Direction(n, a)
			if l <= 0 || l*l != x*x+y*y {
				t.Fatalf("length of %d of %d: %d", a, n, l)
			}
			if turnedX, turnedY, _, _ := beam.Direction(n, (a+n)%(4*n)); turnedX != y || turnedY != -x {
				t.Fatalf("quarter behind %d of %d: %d %d", a, n, turnedX, turnedY)
			}
			if nextX, nextY, _, _ := beam.Direction(n, (a+1)%(4*n)); y*nextX-x*nextY <= 0 {
				t.Fatalf("behind %d of %d: %d %d", a, n, nextX, nextY)
			}
			if n <= 90 {
				finerX, finerY, finerL, _ := beam.Direction(2*n, 2*a)
				if finerX*l != x*finerL || finerY*l != y*finerL {
					t.Fatalf("direction %d of %d in the finer rose: %d %d", a, n, finerX, finerY)
				}
			}
		}
	}
}

// P1.2, P1.8: all slants.
func TestSlant(t *testing.T) {
	for tilt := -8; tilt <= 264; tilt++ {
		c, s, d, e := beam.Slant(tilt)
		if c != 262144-tilt*tilt || s != 1024*tilt || d != 262144+tilt*tilt || e != api.OK {
			t.Fatalf("Slant(%d): %d %d %d %d", tilt, c, s, d, e)
		}
		if d*d != c*c+s*s {
			t.Fatalf("squares of the slant of %d", tilt)
		}
	}
	if c, s, d, _ := beam.Slant(0); c != 262144 || s != 0 || d != 262144 {
		t.Errorf("Slant(0): %d %d %d", c, s, d)
	}
	if c, s, d, _ := beam.Slant(256); c != 196608 || s != 262144 || d != 327680 {
		t.Errorf("Slant(256): %d %d %d", c, s, d)
	}
}

// P1.2: tilts that have no slant.
func TestSlantErrors(t *testing.T) {
	wrong := []int{-9, 265}
	for _, n := range extremes() {
		if n < -8 || n > 264 {
			wrong = append(wrong, n)
		}
	}
	for _, n := range wrong {
		if c, s, d, e := beam.Slant(n); e != api.ErrRange || c != 0 || s != 0 || d != 0 {
			t.Errorf("Slant(%d): %d %d %d %d", n, c, s, d, e)
		}
	}
}
