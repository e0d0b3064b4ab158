package rain_test

import (
	"math"
	"math/big"
	"slices"
	"testing"

	"radome/api"
	"radome/beam"
	"radome/rain"
)

func earth() api.Span { return pt(10000000) }

// heard is an echo with some power.
func heard(kind int, power api.Span) api.Echo {
	x := api.Echo{Kind: kind, Power: power}
	if kind != api.Quiet {
		x.Ratio, x.Match, x.Spread = span(100, 200), span(900, 950), 7
	}
	if kind == api.Clear {
		x.Steps, x.Turn = [2]api.Span{span(-3, 5), span(7, 9)}, span(0, 4)
	}
	return x
}

// example is a sweep at 100 metres with the tilt 0, whose ray 0 has an echo of
// each kind, and whose other rays are quiet.
func example() api.Sweep {
	s := api.Sweep{Site: api.Site{Name: "s", Z: 100, Rose: 1, Gates: 3, Step: 1000, Width: 1}, Time: 5}
	quiet := heard(api.Quiet, pt(0))
	s.Rays = [][]api.Echo{
		{heard(api.Clear, pt(1000)), heard(api.Mixed, span(450, 500)), heard(api.Quiet, span(0, 25))},
		{quiet, quiet, quiet}, {quiet, quiet, quiet}, {quiet, quiet, quiet},
	}
	return s
}

// hill is ground of four pixels around the example, of which the one in the
// north-east is not at 0.
func hill(v api.Span) api.Field {
	return api.Field{Grid: api.Grid{X: -5000, Y: -5000, Size: 5000, Wide: 2, High: 2}, Vals: spans(0, 0, 0, 0, 0, 0, v.Lo, v.Hi)}
}

// P5.5: the rates of the example step by step, with an echo of each kind; with
// no thread of the beam blocked, with some, with all, and with what can be any
// number of them; and with bands below, in and above the layer in which snow
// melts. The bands are 98 to 103, 94 to 107, and 90 to 111. What was measured
// restores to 1000, 900 to 1000, and 0 to 100.
func TestRatesExample(t *testing.T) {
	far, flat := span(2000, 2500), pt(0)
	for what, x := range map[string]struct {
		melt, ground api.Span
		want         []api.Span
	}{
		"nothing in the way":        {far, flat, spans(2000, 2000, 1800, 2000, 0, 200)},
		"one thread blocked":        {far, pt(98), spans(2000, 3000, 2700, 3000, 0, 304)},
		"all threads blocked":       {far, pt(150), spans(6000, 200000, 5400, 200000, 0, 200000)},
		"nothing known":             {far, span(0, 20000), spans(2000, 200000, 1800, 200000, 0, 200000)},
		"just below the layer":      {span(112, 200), flat, spans(2000, 2000, 1800, 2000, 0, 200)},
		"below it, and once in it":  {span(111, 200), flat, spans(2000, 2000, 1800, 2000, 0, 300)},
		"in the layer":              {span(90, 111), flat, spans(400, 3000, 360, 3000, 0, 300)},
		"above the layer":           {span(50, 89), flat, spans(2000, 6000, 1800, 6000, 0, 600)},
		"above it, and twice in it": {span(50, 94), flat, spans(2000, 6000, 360, 6000, 0, 600)},
		"below it and in it":        {span(103, 200), flat, spans(400, 3000, 360, 3000, 0, 300)},
		"in it and above it":        {span(90, 102), flat, spans(400, 6000, 360, 6000, 0, 600)},
		"across the layer":          {span(99, 102), flat, spans(400, 6000, 360, 6000, 0, 600)},
	} {
		m := model()
		m.Melt, m.In, m.Rate = x.melt, span(200, 1500), points(0, 0, 100000, 200000)
		if got := mustRates(t, m, example(), earth(), hill(x.ground), 0); !slices.Equal(got, x.want) {
			t.Errorf("%s: %v, want %v", what, got, x.want)
		}
		for ray := 1; ray < 4; ray++ {
			if got := mustRates(t, m, example(), earth(), hill(x.ground), ray); !slices.Equal(got, spans(0, 0, 0, 0, 0, 0)) {
				t.Errorf("%s, the quiet ray %d: %v", what, ray, got)
			}
		}
	}
}

// P5.5: rates are rounded to both sides, and have the values of a table beyond
// its last point, and at the power 0.
func TestRatesOfTables(t *testing.T) {
	for what, x := range map[string]struct {
		rate []rain.Point
		want []api.Span
	}{
		"thirds":              {points(0, 0, 3000, 1000), spans(333, 334, 300, 334, 0, 34)},
		"beyond":              {points(0, 0, 950, 950), spans(950, 950, 900, 950, 0, 100)},
		"a value without any": {points(0, 70, 100, 70, 1000, 1000000), spans(1000000, 1000000, 888896, 1000000, 70, 70)},
	} {
		m := model()
		m.Rate = x.rate
		if got := mustRates(t, m, example(), earth(), hill(pt(0)), 0); !slices.Equal(got, x.want) {
			t.Errorf("%s: %v, want %v", what, got, x.want)
		}
	}
}

// scene is a sweep with all that its rates depend on.
type scene struct {
	model  rain.Model
	sweep  api.Sweep
	earth  api.Span
	ground api.Field
}

// scene returns one with some hills, and echoes of all kinds.
func (n *noise) scene(gates int) scene {
	site := api.Site{
		Name: "s", X: n.upTo(4000) - 2000, Y: n.upTo(4000) - 2000, Z: n.upTo(400),
		Rose: 1 + n.upTo(1), Gates: gates, Step: n.of(50, 300, 2000), Width: n.of(0, 1, 3, 8),
	}
	size := 1 + min(9999, gates*site.Step/3)
	g := api.Grid{X: site.X - 3*size, Y: site.Y - 3*size, Size: size, Wide: 6, High: 5}
	c := scene{
		model: n.model(site.Z + n.of(30, 300, 3000)), earth: n.inside(span(5000000, 9000000)), ground: api.Field{Grid: g},
		sweep: api.Sweep{Site: site, Tilt: n.of(0, 1, 4, 30, 256), Time: n.upTo(1000)},
	}
	high := site.Z + n.of(-site.Z, 0, 20, 200)
	for range g.Wide * g.High {
		c.ground.Vals = append(c.ground.Vals, n.inside(span(0, n.upTo(high))))
	}
	loud := min(maxPower, n.of(2, 1, 1)*c.model.Rate[len(c.model.Rate)-1].Z)
	for range 4 * site.Rose {
		var ray []api.Echo
		for range gates {
			power := n.inside(span(0, 1+n.upTo(loud-1)))
			ray = append(ray, heard(n.kind(power), power))
		}
		c.sweep.Rays = append(c.sweep.Rays, ray)
	}
	return c
}

// kind returns one that an echo with some power can have.
func (n *noise) kind(power api.Span) int {
	if power.Lo == 0 {
		return api.Quiet
	}
	return n.of(api.Mixed, api.Clear)
}

func (c scene) rates(t *testing.T, ray int) []api.Span {
	t.Helper()
	return mustRates(t, c.model, c.sweep, c.earth, c.ground, ray)
}

// blocked returns how many threads are blocked at each gate of a ray.
func (c scene) blocked(t *testing.T, ray int) []api.Span {
	t.Helper()
	l, e := beam.Blocked(c.sweep.Site, c.sweep.Tilt, c.earth, c.ground, ray)
	wantErr(t, "beam.Blocked", e, api.OK)
	return l
}

// factor returns the factor of a gate.
func (c scene) factor(t *testing.T, gate int) api.Span {
	t.Helper()
	band, e := beam.Band(c.sweep.Site, c.sweep.Tilt, c.earth, gate)
	wantErr(t, "beam.Band", e, api.OK)
	return mustFactor(t, c.model, band)
}

// P5.5: rates against their definition.
func TestRates(t *testing.T) {
	n := &noise{state: 41}
	seen := map[string]int{}
	for range 150 {
		c := n.scene(n.of(1, 5, 30))
		ray := n.upTo(4*c.sweep.Site.Rose - 1)
		got := c.rates(t, ray)
		if want := wantRates(t, c.model, c.sweep, c.earth, c.ground, ray); !slices.Equal(got, want) {
			t.Fatalf("Rates of the ray %d of %v: %v, want %v", ray, c, got, want)
		}
		for gate, b := range c.blocked(t, ray) {
			all := 2*c.sweep.Site.Width + 1
			switch {
			case b == pt(0):
				seen["no thread blocked"]++
			case b == pt(all):
				seen["all threads blocked"]++
			case b.Hi < all:
				seen["some threads blocked"]++
			}
			if top := c.model.Rate[len(c.model.Rate)-1].R; got[gate].Hi < top {
				seen["not any rate"]++
			}
		}
	}
	for _, what := range []string{"no thread blocked", "some threads blocked", "all threads blocked", "not any rate"} {
		if seen[what] < 50 {
			t.Errorf("%s: only %d gates", what, seen[what])
		}
	}
}

// truth is what is true of a ray, of a radar, and of the ground.
type truth struct {
	measured []*big.Rat
	rates    []*big.Rat
}

// truth returns powers, factors, and numbers of blocked threads that can be
// true of a ray, and what follows from them.
func (n *noise) truth(t *testing.T, c scene, ray int) truth {
	t.Helper()
	var x truth
	threads, passage := 2*c.sweep.Site.Width+1, rat(1, 1)
	far := min(maxPower, 2*c.model.Rate[len(c.model.Rate)-1].Z)
	for gate, b := range c.blocked(t, ray) {
		aloft := rat(n.upTo(n.of(1, far/20+1, far)), 1)
		open := threads - n.inside(b).Lo
		x.measured = append(x.measured, times(times(aloft, passage), rat(open, threads)))
		factor := n.inside(c.factor(t, gate)).Lo
		x.rates = append(x.rates, wantValue(c.model.Rate, times(aloft, rat(factor, 1000))))
		lost := times(wantValue(c.model.Loss, aloft), rat(1, 65536))
		passage = times(passage, plus(rat(1, 1), lost.Neg(lost)))
	}
	return x
}

// echoes returns echoes of all kinds that have what is measured.
func (n *noise) echoes(measured []*big.Rat, err int) []api.Echo {
	var l []api.Echo
	for _, m := range measured {
		power := span(max(0, floor(m)-n.upTo(err)), min(maxPower, ceil(m)+n.upTo(err)))
		l = append(l, heard(n.kind(power), power))
	}
	return l
}

// P5.9, G1: the rates of the truth lie within those of the echoes.
func TestRatesTruth(t *testing.T) {
	n := &noise{state: 42}
	informed := 0
	for range 300 {
		c := n.scene(n.of(3, 12, 40))
		ray := n.upTo(4*c.sweep.Site.Rose - 1)
		x := n.truth(t, c, ray)
		c.sweep.Rays[ray] = n.echoes(x.measured, n.of(0, 2, 100))
		for gate, s := range c.rates(t, ray) {
			if x.rates[gate].Cmp(rat(s.Lo, 1)) < 0 || x.rates[gate].Cmp(rat(s.Hi, 1)) > 0 {
				t.Fatalf("the ray %d of %v: %v at the gate %d, but %v is true", ray, c, s, gate, x.rates[gate])
			}
			if top := c.model.Rate[len(c.model.Rate)-1].R; s.Lo > 0 && s.Hi < top {
				informed++
			}
		}
	}
	if informed < 300 {
		t.Errorf("only %d rates say much", informed)
	}
}

// narrower returns a scene with an earth, a ground, factors and powers within
// those of another one.
func (n *noise) narrower(c scene) scene {
	c.earth = n.inside(c.earth)
	c.model.In, c.model.Above = n.inside(c.model.In), n.inside(c.model.Above)
	vals := slices.Clone(c.ground.Vals)
	for i := range vals {
		vals[i] = n.inside(vals[i])
	}
	c.ground.Vals = vals
	var rays [][]api.Echo
	for _, ray := range c.sweep.Rays {
		var l []api.Echo
		for _, x := range ray {
			power := n.inside(x.Power)
			l = append(l, heard(n.kind(power), power))
			if power.Lo == 0 {
				l[len(l)-1].Power = span(0, power.Hi)
			}
		}
		rays = append(rays, l)
	}
	c.sweep.Rays = rays
	return c
}

// P5.9, G1: closer bounds lead to closer rates; so they do on a map.
func TestRatesWithin(t *testing.T) {
	n := &noise{state: 43}
	for range 200 {
		c := n.scene(n.of(1, 5, 30))
		inner := n.narrower(c)
		for ray := range c.sweep.Rays {
			if a, b := inner.rates(t, ray), c.rates(t, ray); !areWithin(a, b) {
				t.Fatalf("the ray %d of %v and %v: %v and %v", ray, inner, c, a, b)
			}
		}
		g := c.ground.Grid
		if a, b := mustMap(t, inner, g), mustMap(t, c, g); !areWithin(a.Vals, b.Vals) {
			t.Fatalf("Map of %v and %v: %v and %v", inner, c, a, b)
		}
	}
}

// faulty is a scene with a ray and a grid, and one thing after another that is
// wrong: the last one first.
type faulty struct {
	scene
	ray  int
	grid api.Grid
}

func (f faulty) check(t *testing.T, what string, rates, field api.Errno) {
	t.Helper()
	l, e := rain.Rates(f.model, f.sweep, f.earth, f.ground, f.ray)
	if e != rates || e != api.OK && len(l) > 0 {
		t.Errorf("Rates with %s: %v %d, want %d", what, l, e, rates)
	}
	m, e := rain.Map(f.model, f.sweep, f.earth, f.ground, f.grid)
	if e != field || e != api.OK && (m.Grid != api.Grid{} || len(m.Vals) > 0) {
		t.Errorf("Map with %s: %v %d, want %d", what, m, e, field)
	}
}

// P5.5: which error comes first: from one check to the next one, all that was
// wrong before remains so.
func TestRatesErrors(t *testing.T) {
	f := faulty{scene{model(), example(), earth(), hill(pt(0))}, 0, hill(pt(0)).Grid}
	f.check(t, "nothing wrong", api.OK, api.OK)
	f.grid.Size = 0
	f.check(t, "another grid", api.OK, api.ErrRange)
	f.grid.Size, f.ray = 1, 4
	f.check(t, "another ray", api.ErrRange, api.OK)
	f.ray = -1
	f.check(t, "a ray below 0", api.ErrRange, api.OK)
	f.earth.Lo = 999999
	f.check(t, "another earth", api.ErrRange, api.ErrRange)
	f.ground = hill(span(0, 20001))
	f.check(t, "ground that is too high", api.ErrRange, api.ErrRange)
	f.grid.Size, f.ground.Vals = 0, nil
	f.check(t, "no ground", api.ErrShape, api.ErrShape)
	f.sweep.Rays = slices.Clone(f.sweep.Rays)
	f.sweep.Rays[3] = []api.Echo{{}, {}, {}}
	f.check(t, "echoes of no kind", api.ErrArg, api.ErrArg)
	f.sweep.Time = -1
	f.check(t, "another time", api.ErrRange, api.ErrRange)
	f.sweep.Site.Name = "S"
	f.check(t, "no name", api.ErrName, api.ErrName)
	f.model.Melt.Lo = 20001
	f.check(t, "another layer", api.ErrRange, api.ErrRange)
	f.model.Rate = many(33)
	f.check(t, "too many rates", api.ErrMany, api.ErrMany)
	f.model.Loss = nil
	f.check(t, "no losses", api.ErrEmpty, api.ErrEmpty)
}

// P5.5: what is out of range, with nothing else that is wrong.
func TestRatesRanges(t *testing.T) {
	good := faulty{scene{model(), example(), earth(), hill(pt(0))}, 0, hill(pt(0)).Grid}
	call := func(change func(f *faulty)) api.Errno {
		f := good
		change(&f)
		_, e := rain.Rates(f.model, f.sweep, f.earth, f.ground, f.ray)
		m, e2 := rain.Map(f.model, f.sweep, f.earth, f.ground, f.grid)
		if e2 != api.OK && (m.Grid != api.Grid{} || len(m.Vals) > 0) {
			t.Errorf("Map with the error %d: %v", e2, m)
		}
		return max(e, e2)
	}
	checkLimits(t, "ray", 0, 3, func(n int) api.Errno { return call(func(f *faulty) { f.ray = n }) })
	checkLimits(t, "earth", 1000000, 100000000, func(n int) api.Errno { return call(func(f *faulty) { f.earth = pt(n) }) })
	checkLimits(t, "tilt", 0, 256, func(n int) api.Errno { return call(func(f *faulty) { f.sweep.Tilt = n }) })
	checkLimits(t, "ground", 0, 20000, func(n int) api.Errno { return call(func(f *faulty) { f.ground = hill(pt(n)) }) })
	checkLimits(t, "grid.Size", 1, 10000, func(n int) api.Errno { return call(func(f *faulty) { f.grid.Size = n }) })
	checkLimits(t, "grid.Wide", 1, 64, func(n int) api.Errno { return call(func(f *faulty) { f.grid.Wide = n }) })
	checkLimits(t, "grid.High", 1, 64, func(n int) api.Errno { return call(func(f *faulty) { f.grid.High = n }) })
	checkLimits(t, "grid.X", -1048576, 1048576, func(n int) api.Errno { return call(func(f *faulty) { f.grid.X = n }) })
	checkLimits(t, "grid.Y", -1048576, 1048576, func(n int) api.Errno { return call(func(f *faulty) { f.grid.Y = n }) })
	for _, s := range []api.Span{span(2, 1), span(math.MinInt, math.MaxInt)} {
		wantErr(t, "a band of the model", call(func(f *faulty) { f.model.Melt = s }), api.ErrRange)
	}
}
