package rain_test

import (
	"math"
	"math/big"
	"slices"
	"testing"

	"radome/api"
	"radome/beam"
	"radome/rain"
)

// The functions named want.. follow the definitions of the chapter word by
// word, in rational numbers, so that they share nothing with the package.

const maxPower = 1073741824

// tableT and tableL are the tables T and L of the chapter's examples.
func tableT() []rain.Point { return points(0, 0, 100, 10, 200, 110) }

func tableL() []rain.Point { return points(0, 0, 1000, 32768) }

// points returns those with pairs of numbers.
func points(l ...int) []rain.Point {
	var all []rain.Point
	for i := 0; i+1 < len(l); i += 2 {
		all = append(all, rain.Point{Z: l[i], R: l[i+1]})
	}
	return all
}

// many returns a table with so many points.
func many(count int) []rain.Point {
	var l []rain.Point
	for i := range count {
		l = append(l, rain.Point{Z: 3 * i, R: 2 * i})
	}
	return l
}

// model is a valid one, with the layer and the factors of the examples.
func model() rain.Model {
	return rain.Model{
		Loss: tableL(), Rate: points(0, 0, 1000, 2000),
		Melt: span(2000, 2500), In: span(200, 1000), Above: span(1000, 3000),
	}
}

func span(lo, hi int) api.Span { return api.Span{Lo: lo, Hi: hi} }

func pt(n int) api.Span { return span(n, n) }

// spans returns those between pairs of numbers.
func spans(l ...int) []api.Span {
	var all []api.Span
	for i := 0; i+1 < len(l); i += 2 {
		all = append(all, span(l[i], l[i+1]))
	}
	return all
}

// extremes are numbers that no argument may be spoiled by.
func extremes() []int {
	return []int{math.MinInt, math.MinInt + 1, -1 << 32, -1, 0, 1, 2, 3, 1000, 1 << 32, math.MaxInt - 1, math.MaxInt}
}

func rat(num, den int) *big.Rat { return big.NewRat(int64(num), int64(den)) }

func plus(x, y *big.Rat) *big.Rat { return new(big.Rat).Add(x, y) }

func times(x, y *big.Rat) *big.Rat { return new(big.Rat).Mul(x, y) }

func floor(x *big.Rat) int { return int(new(big.Int).Div(x.Num(), x.Denom()).Int64()) }

func ceil(x *big.Rat) int { return -floor(new(big.Rat).Neg(x)) }

// wantValue returns the value of a table at a power, which need not be an
// integer.
func wantValue(l []rain.Point, z *big.Rat) *big.Rat {
	for i := range len(l) - 1 {
		a, b := l[i], l[i+1]
		if z.Cmp(rat(a.Z, 1)) >= 0 && z.Cmp(rat(b.Z, 1)) < 0 {
			return plus(rat(a.R, 1), times(rat(b.R-a.R, b.Z-a.Z), plus(z, rat(-a.Z, 1))))
		}
	}
	return rat(l[len(l)-1].R, 1)
}

// wantNext returns the passage behind a gate, from the span of its power.
func wantNext(loss []rain.Point, passage, power api.Span) api.Span {
	v, w := ceil(wantValue(loss, rat(power.Hi, 1))), floor(wantValue(loss, rat(power.Lo, 1)))
	return span(floor(times(rat(passage.Lo, 1), rat(65536-v, 65536))), ceil(times(rat(passage.Hi, 1), rat(65536-w, 65536))))
}

func wantPass(loss []rain.Point, powers []int) []api.Span {
	passage := pt(1 << 30)
	var l []api.Span
	for _, z := range powers {
		l = append(l, span(floor(times(rat(z, 1), rat(passage.Lo, 1<<30))), ceil(times(rat(z, 1), rat(passage.Hi, 1<<30)))))
		passage = wantNext(loss, passage, pt(z))
	}
	return l
}

func wantRestore(loss []rain.Point, measured []api.Span) []api.Span {
	passage := pt(1 << 30)
	var l []api.Span
	for _, m := range measured {
		hi := maxPower
		if passage.Lo >= 1<<20 {
			hi = ceil(times(rat(m.Hi, 1), rat(1<<30, passage.Lo)))
		}
		power := span(min(maxPower, floor(times(rat(m.Lo, 1), rat(1<<30, passage.Hi)))), min(maxPower, hi))
		l = append(l, power)
		passage = wantNext(loss, passage, power)
	}
	return l
}

func wantFill(power api.Span, n int, b api.Span) api.Span {
	lo, hi := power.Lo*n, maxPower
	if b.Lo < n {
		lo = floor(rat(power.Lo*n, n-b.Lo))
	}
	if b.Hi < n {
		hi = ceil(rat(power.Hi*n, n-b.Hi))
	}
	return span(min(maxPower, lo), min(maxPower, hi))
}

// wantFactor goes over all heights of a band.
func wantFactor(m rain.Model, band api.Span) api.Span {
	var l []int
	for h := band.Lo; h <= band.Hi; h++ {
		switch {
		case h < m.Melt.Lo:
			l = append(l, 1000)
		case h > m.Melt.Hi:
			l = append(l, m.Above.Lo, m.Above.Hi)
		default:
			l = append(l, m.In.Lo, m.In.Hi)
		}
	}
	return span(slices.Min(l), slices.Max(l))
}

func wantFallen(power, factor api.Span) api.Span {
	lo, hi := floor(rat(power.Lo*factor.Lo, 1000)), ceil(rat(power.Hi*factor.Hi, 1000))
	return span(min(maxPower, lo), min(maxPower, hi))
}

func wantRates(t *testing.T, m rain.Model, s api.Sweep, earth api.Span, ground api.Field, ray int) []api.Span {
	t.Helper()
	blocked, e := beam.Blocked(s.Site, s.Tilt, earth, ground, ray)
	wantErr(t, "beam.Blocked", e, api.OK)
	var measured, rates []api.Span
	for gate, x := range s.Rays[ray] {
		measured = append(measured, wantFill(x.Power, 2*s.Site.Width+1, blocked[gate]))
	}
	for gate, power := range wantRestore(m.Loss, measured) {
		band, e := beam.Band(s.Site, s.Tilt, earth, gate)
		wantErr(t, "beam.Band", e, api.OK)
		below := wantFallen(power, wantFactor(m, band))
		rates = append(rates, span(floor(wantValue(m.Rate, rat(below.Lo, 1))), ceil(wantValue(m.Rate, rat(below.Hi, 1)))))
	}
	return rates
}

// noise yields numbers that look like random ones, and are always the same.
type noise struct{ state uint64 }

func (n *noise) upTo(most int) int {
	n.state = n.state*6364136223846793005 + 1442695040888963407
	return int(n.state>>33) % (most + 1)
}

func (n *noise) of(l ...int) int { return l[n.upTo(len(l)-1)] }

// inside returns a span within another one.
func (n *noise) inside(outer api.Span) api.Span {
	lo := outer.Lo + n.upTo(outer.Hi-outer.Lo)
	return span(lo, lo+n.upTo(outer.Hi-lo))
}

// table returns a valid one, with powers and values up to some greatest ones.
func (n *noise) table(count, far, most int) []rain.Point {
	values := make([]int, count)
	for i := range values {
		values[i] = n.upTo(most)
	}
	slices.Sort(values)
	powers := map[int]bool{0: true}
	for len(powers) < count {
		powers[1+n.upTo(far-1)] = true
	}
	var l []rain.Point
	for z := range powers {
		l = append(l, rain.Point{Z: z})
	}
	slices.SortFunc(l, func(a, b rain.Point) int { return a.Z - b.Z })
	for i, r := range values {
		l[i].R = r
		if i > 0 && n.upTo(3) == 0 {
			l[i].R = l[i-1].R
		}
	}
	return l
}

// model returns a valid one, in which snow melts at most so high.
func (n *noise) model(high int) rain.Model {
	return rain.Model{
		Loss: n.table(2+n.upTo(4), n.of(100, 5000, maxPower), n.of(0, 300, 3000, 32768)),
		Rate: n.table(2+n.upTo(6), n.of(100, 5000, maxPower), n.of(50, 3000, 1000000)),
		Melt: n.inside(span(0, high)), In: n.inside(span(0, n.of(2000, 100000))), Above: n.inside(span(0, n.of(2000, 100000))),
	}
}

func isWithin(s, outer api.Span) bool {
	return s.Lo <= s.Hi && outer.Lo <= s.Lo && s.Hi <= outer.Hi
}

// areWithin reports whether each span is within the one at the same place.
func areWithin(l, outer []api.Span) bool {
	return slices.EqualFunc(l, outer, isWithin)
}

func mustPass(t *testing.T, loss []rain.Point, powers []int) []api.Span {
	t.Helper()
	l, e := rain.Pass(loss, powers)
	if e != api.OK || len(l) != len(powers) {
		t.Fatalf("Pass(%v, %v): %v, error %d", loss, powers, l, e)
	}
	return l
}

func mustRestore(t *testing.T, loss []rain.Point, measured []api.Span) []api.Span {
	t.Helper()
	l, e := rain.Restore(loss, measured)
	if e != api.OK || len(l) != len(measured) {
		t.Fatalf("Restore(%v, %v): %v, error %d", loss, measured, l, e)
	}
	return l
}

func mustFill(t *testing.T, power api.Span, threads int, blocked api.Span) api.Span {
	t.Helper()
	s, e := rain.Fill(power, threads, blocked)
	if e != api.OK {
		t.Fatalf("Fill(%v, %d, %v): error %d", power, threads, blocked, e)
	}
	return s
}

func mustFactor(t *testing.T, m rain.Model, band api.Span) api.Span {
	t.Helper()
	s, e := rain.Factor(m, band)
	if e != api.OK {
		t.Fatalf("Factor(%v, %v): error %d", m, band, e)
	}
	return s
}

func mustRates(t *testing.T, m rain.Model, s api.Sweep, earth api.Span, ground api.Field, ray int) []api.Span {
	t.Helper()
	l, e := rain.Rates(m, s, earth, ground, ray)
	if e != api.OK || len(l) != s.Site.Gates {
		t.Fatalf("Rates of the ray %d of %v: %v, error %d", ray, s.Site, l, e)
	}
	return l
}

func mustSum(t *testing.T, l []rain.Reading, end, slack int) api.Span {
	t.Helper()
	s, e := rain.Sum(l, end, slack)
	if e != api.OK {
		t.Fatalf("Sum(%v, %d, %d): error %d", l, end, slack, e)
	}
	return s
}

func wantErr(t *testing.T, what string, got, want api.Errno) {
	t.Helper()
	if got != want {
		t.Errorf("%s: error %d, want %d", what, got, want)
	}
}

// checkLimits checks that a number is valid from the least one to the most.
func checkLimits(t *testing.T, what string, least, most int, check func(n int) api.Errno) {
	t.Helper()
	for n, want := range map[int]api.Errno{
		least: api.OK, most: api.OK,
		least - 1: api.ErrRange, most + 1: api.ErrRange, math.MinInt: api.ErrRange, math.MaxInt: api.ErrRange,
	} {
		if e := check(n); e != want {
			t.Errorf("%s %d: error %d, want %d", what, n, e, want)
		}
	}
}
