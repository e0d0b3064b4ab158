package beam_test

import (
	"math"
	"math/big"
	"testing"

	"radome/api"
	"radome/beam"
)

// The functions named want.. follow the definitions of the chapter word by
// word, with rational numbers, so that they share nothing with the package.

func example() api.Site {
	return api.Site{Name: "s", Z: 100, Rose: 2, Gates: 4, Step: 1000, Width: 1}
}

// sites are some valid ones: small, odd, and with every number at an end.
func sites() []api.Site {
	return []api.Site{
		example(),
		{Name: "a", X: -7, Y: 13, Z: 0, Rose: 1, Gates: 1, Step: beam.MinStep, Width: 0},
		{Name: "b", X: 1001, Y: -333, Z: 777, Rose: 3, Gates: 9, Step: 333, Width: 2},
		{Name: "c", X: -api.MaxPlace, Y: api.MaxPlace, Z: api.MaxHeight, Rose: 5, Gates: 17, Step: 51, Width: api.MaxWidth},
		{Name: "abcdefghijkl", X: api.MaxPlace, Y: -api.MaxPlace, Z: 1, Rose: api.MaxRose, Gates: api.MaxGates, Step: api.MaxStep, Width: api.MaxWidth},
	}
}

func tilts() []int { return []int{0, 1, 7, 100, 255, api.MaxTilt} }

func earths() []api.Span {
	return []api.Span{pt(beam.MinEarth), pt(8495001), pt(beam.MaxEarth), {Lo: 8000000, Hi: 9000000}, {Lo: beam.MinEarth, Hi: beam.MaxEarth}}
}

// extremes are numbers that no argument may be spoiled by.
func extremes() []int {
	return []int{math.MinInt, math.MinInt + 1, -1 << 32, -1, 0, 1, 1 << 32, math.MaxInt - 1, math.MaxInt}
}

func pt(n int) api.Span { return api.Span{Lo: n, Hi: n} }

func rat(num, den int) *big.Rat { return big.NewRat(int64(num), int64(den)) }

func times(l ...*big.Rat) *big.Rat {
	product := rat(1, 1)
	for _, r := range l {
		product.Mul(product, r)
	}
	return product
}

func plus(l ...*big.Rat) *big.Rat {
	sum := rat(0, 1)
	for _, r := range l {
		sum.Add(sum, r)
	}
	return sum
}

// floor rounds down: the division of big.Int leaves a remainder that is never
// negative.
func floor(r *big.Rat) int {
	return int(new(big.Int).Div(r.Num(), r.Denom()).Int64())
}

func ceil(r *big.Rat) int { return -floor(new(big.Rat).Neg(r)) }

func wantDirection(n, a int) (x, y, length int) {
	q, k := a/n, a%n
	p, r, length := 2*n*k, n*n-k*k, n*n+k*k
	switch q {
	case 0:
		return p, r, length
	case 1:
		return r, -p, length
	case 2:
		return -p, -r, length
	}
	return -r, p, length
}

func wantSlant(t int) (cosine, sine *big.Rat) {
	d := 262144 + t*t
	return rat(262144-t*t, d), rat(1024*t, d)
}

func wantGround(s api.Site, tilt, gate int) api.Span {
	c, _ := wantSlant(tilt)
	exact := times(rat((2*gate+1)*s.Step, 2), c)
	return api.Span{Lo: floor(exact), Hi: ceil(exact)}
}

func wantHeight(s api.Site, tilt int, earth api.Span, gate int) api.Span {
	_, sine := wantSlant(tilt)
	g := wantGround(s, tilt, gate)
	rise := times(rat((2*gate+1)*s.Step, 2), sine)
	return api.Span{
		Lo: s.Z + floor(rise) + floor(rat(g.Lo*g.Lo, 2*earth.Hi)),
		Hi: s.Z + ceil(rise) + ceil(rat(g.Hi*g.Hi, 2*earth.Lo)),
	}
}

func wantBand(s api.Site, tilt int, earth api.Span, gate int) api.Span {
	return api.Span{
		Lo: wantHeight(s, tilt-s.Width, earth, gate).Lo,
		Hi: wantHeight(s, tilt+s.Width, earth, gate).Hi,
	}
}

func wantPlace(s api.Site, tilt, ray, gate int) (x, y int) {
	g := wantGround(s, tilt, gate).Lo
	dx, dy, length := wantDirection(2*s.Rose, 2*ray+1)
	return s.X + floor(rat(g*dx, length)), s.Y + floor(rat(g*dy, length))
}

func wantBorder(s api.Site, tilt, j int) int {
	c, _ := wantSlant(tilt)
	return floor(times(rat(j*s.Step, 1), c))
}

// raysOf returns all rays in whose sectors a place lies.
func raysOf(s api.Site, x, y int) []int {
	var l []int
	for a := range 4 * s.Rose {
		fromX, fromY, _ := wantDirection(s.Rose, a)
		toX, toY, _ := wantDirection(s.Rose, (a+1)%(4*s.Rose))
		if fromY*(x-s.X)-fromX*(y-s.Y) >= 0 && toY*(x-s.X)-toX*(y-s.Y) < 0 {
			l = append(l, a)
		}
	}
	return l
}

// gatesOf returns all gates between whose borders a place is.
func gatesOf(s api.Site, borders []int, x, y int) []int {
	var l []int
	w := (x-s.X)*(x-s.X) + (y-s.Y)*(y-s.Y)
	for j := range s.Gates {
		if borders[j]*borders[j] <= w && w < borders[j+1]*borders[j+1] {
			l = append(l, j)
		}
	}
	return l
}

func wantBorders(s api.Site, tilt int) []int {
	var l []int
	for j := range s.Gates + 1 {
		l = append(l, wantBorder(s, tilt, j))
	}
	return l
}

// places are around a site: close to it, at its borders, and on its
// directions and close to those.
func places(s api.Site, tilt int) [][2]int {
	var l [][2]int
	around := func(x, y, width int) {
		for dx := -width; dx <= width; dx++ {
			for dy := -width; dy <= width; dy++ {
				l = append(l, [2]int{s.X + x + dx, s.Y + y + dy})
			}
		}
	}
	around(0, 0, 4)
	for _, b := range wantBorders(s, tilt) {
		for _, q := range [][2]int{{0, b}, {b, 0}, {0, -b}, {-b, 0}} {
			around(q[0], q[1], 1)
		}
		around(3*b/5, 4*b/5, 1)
	}
	for a := range 4 * s.Rose {
		x, y, _ := wantDirection(s.Rose, a)
		around(x, y, 1)
		around(7*x, 7*y, 1)
	}
	return l
}

// noise yields numbers that look like random ones, and are always the same.
type noise struct{ state uint64 }

func (n *noise) upTo(most int) int {
	n.state = n.state*6364136223846793005 + 1442695040888963407
	return int(n.state>>33) % (most + 1)
}

// span returns a span within another one.
func (n *noise) span(outer api.Span) api.Span {
	lo := outer.Lo + n.upTo(outer.Hi-outer.Lo)
	return api.Span{Lo: lo, Hi: lo + n.upTo(outer.Hi-lo)}
}

func isWithin(s, outer api.Span) bool {
	return s.Lo <= s.Hi && outer.Lo <= s.Lo && s.Hi <= outer.Hi
}

func wantErr(t *testing.T, what string, got, want api.Errno) {
	t.Helper()
	if got != want {
		t.Errorf("%s: error %d, want %d", what, got, want)
	}
}
