package rain_test

import (
	"slices"
	"testing"

	"radome/api"
	"radome/rain"
)

// calls are calls of all functions with two numbers in many places, each of
// which reports whether it returned nothing, and its error.
func calls(a, b int) map[string]func() (bool, api.Errno) {
	s := span(a, b)
	table := points(0, 0, a, b, 10, 32768)
	return map[string]func() (bool, api.Errno){
		"CheckTable": func() (bool, api.Errno) { return true, rain.CheckTable(table, b) },
		"CheckTable of others": func() (bool, api.Errno) {
			return true, rain.CheckTable(points(a, b, b, a), a)
		},
		"Value": func() (bool, api.Errno) {
			v, e := rain.Value(points(0, 0, a, b), a)
			return v == api.Span{}, e
		},
		"Value of T": func() (bool, api.Errno) {
			v, e := rain.Value(tableT(), b)
			return v == api.Span{}, e
		},
		"Pass": func() (bool, api.Errno) {
			l, e := rain.Pass(tableL(), []int{a, b})
			return len(l) == 0, e
		},
		"Pass by any table": func() (bool, api.Errno) {
			l, e := rain.Pass(table, []int{5, a})
			return len(l) == 0, e
		},
		"Restore": func() (bool, api.Errno) {
			l, e := rain.Restore(table, []api.Span{span(3, 5), s})
			return len(l) == 0, e
		},
		"Fill": func() (bool, api.Errno) {
			v, e := rain.Fill(span(3, 5), a, span(0, b))
			return v == api.Span{}, e
		},
		"Fill of any power": func() (bool, api.Errno) {
			v, e := rain.Fill(s, 3, span(1, 2))
			return v == api.Span{}, e
		},
		"Fill of any threads": func() (bool, api.Errno) {
			v, e := rain.Fill(span(3, 5), 3, s)
			return v == api.Span{}, e
		},
		"Factor": func() (bool, api.Errno) {
			v, e := rain.Factor(model(), s)
			return v == api.Span{}, e
		},
		"Sum": func() (bool, api.Errno) {
			v, e := rain.Sum(record(a, 3, 5, b, 3, 5), b, a)
			return v == api.Span{}, e
		},
		"Sum of any rates": func() (bool, api.Errno) {
			v, e := rain.Sum(record(0, a, b, 3, b, a), a, b)
			return v == api.Span{}, e
		},
		"Fell": func() (bool, api.Errno) {
			v, e := rain.Fell(rain.Gauge{Tips: a, Size: b})
			return v == api.Span{}, e
		},
		"Adjust": func() (bool, api.Errno) {
			v, at, e := rain.Adjust([]rain.Pair{pair(a, b, 3, 200), pair(0, 5, a, b)})
			return v == api.Span{} && (at == [2]int{} || e == api.ErrConflict), e
		},
	}
}

// P0: every function ends, without a panic, for all arguments; R2: with an
// error, all other results are zero values.
func TestAnyArguments(t *testing.T) {
	for _, a := range extremes() {
		for _, b := range extremes() {
			for what, call := range calls(a, b) {
				if zero, e := call(); e != api.OK && !zero {
					t.Fatalf("%s with %d and %d returns more than the error %d", what, a, b, e)
				}
			}
		}
	}
}

// P0, R2: any models, sweeps, earths, grounds, rays and grids.
func TestAnyScenes(t *testing.T) {
	changes := []func(f *faulty, a, b int){
		func(f *faulty, a, b int) { f.model.Loss = points(0, 0, a, b) },
		func(f *faulty, a, b int) { f.model.Rate = points(a, b, b, a) },
		func(f *faulty, a, b int) { f.model.Melt, f.model.In = span(a, b), span(b, a) },
		func(f *faulty, a, b int) { f.model.Above = span(a, b) },
		func(f *faulty, a, b int) { f.sweep.Tilt, f.sweep.Time = a, b },
		func(f *faulty, a, b int) { f.sweep.Site.Rose, f.sweep.Site.Gates = a, b },
		func(f *faulty, a, b int) { f.sweep.Site.X, f.sweep.Site.Width = a, b },
		func(f *faulty, a, b int) { f.sweep.Site.Step, f.sweep.Site.Z = a, b },
		func(f *faulty, a, b int) { f.sweep.Rays[0][1] = heard(api.Mixed, span(a, b)) },
		func(f *faulty, a, b int) { f.sweep.Rays = f.sweep.Rays[:1] },
		func(f *faulty, a, b int) { f.sweep = api.Sweep{Site: f.sweep.Site} },
		func(f *faulty, a, b int) { f.earth = span(a, b) },
		func(f *faulty, a, b int) { f.ground = hill(span(a, b)) },
		func(f *faulty, a, b int) { f.ground.Grid = api.Grid{Size: a, Wide: a, High: b} },
		func(f *faulty, a, b int) { f.ray = a },
		func(f *faulty, a, b int) { f.grid = api.Grid{X: a, Y: b, Size: b, Wide: 2, High: 2} },
		func(f *faulty, a, b int) { f.grid = api.Grid{Size: 1, Wide: a, High: b} },
	}
	for i, change := range changes {
		for _, a := range extremes() {
			for _, b := range extremes() {
				f := faulty{scene{model(), example(), earth(), hill(pt(0))}, 0, hill(pt(0)).Grid}
				change(&f, a, b)
				l, e := rain.Rates(f.model, f.sweep, f.earth, f.ground, f.ray)
				m, e2 := rain.Map(f.model, f.sweep, f.earth, f.ground, f.grid)
				if e != api.OK && len(l) > 0 || e2 != api.OK && (m.Grid != api.Grid{} || len(m.Vals) > 0) {
					t.Fatalf("the change %d with %d and %d: %v %d, %v %d", i, a, b, l, e, m, e2)
				}
			}
		}
	}
}

// P0: a sweep, a ground and a grid as large as they can be.
func TestLarge(t *testing.T) {
	n := &noise{state: 61}
	c := scene{n.model(20000), api.Sweep{}, span(1000000, 100000000), api.Field{}}
	c.sweep.Site = api.Site{Name: "largest_site", X: 1048576, Y: -1048576, Z: 20000, Rose: 90, Gates: 200, Step: 2000, Width: 8}
	c.sweep.Tilt, c.sweep.Time = 256, maxTime
	for range 360 {
		var ray []api.Echo
		for range 200 {
			power := n.inside(span(0, maxPower))
			ray = append(ray, heard(n.kind(power), power))
		}
		c.sweep.Rays = append(c.sweep.Rays, ray)
	}
	c.ground.Grid = api.Grid{X: 1048576, Y: -1048576, Size: 10000, Wide: 64, High: 64}
	for range 64 * 64 {
		c.ground.Vals = append(c.ground.Vals, n.inside(span(0, 20000)))
	}
	for ray := range 360 {
		if got := c.rates(t, ray); ray%90 == 7 && !slices.Equal(got, wantRates(t, c.model, c.sweep, c.earth, c.ground, ray)) {
			t.Errorf("Rates of the ray %d: %v", ray, got)
		}
	}
	g := api.Grid{X: 1048576 - 320000, Y: -1048576, Size: 10000, Wide: 64, High: 64}
	for pixel, s := range mustMap(t, c, g).Vals {
		if !isWithin(s, span(0, 1000000)) {
			t.Fatalf("Map: %v at the pixel %d", s, pixel)
		}
	}
}

// P0: a long record, and as many pairs as there can be.
func TestMany(t *testing.T) {
	var l []rain.Reading
	for i := range 200000 {
		l = append(l, rain.Reading{Time: i * 20000, Rate: span(i%7, 1000000)})
	}
	if got, want := mustSum(t, l, maxTime, 1000), wantSum(l, maxTime, 1000); got != want {
		t.Errorf("Sum of a long record: %v, want %v", got, want)
	}
	n := &noise{state: 62}
	for range 20 {
		rain.Adjust(n.pairs(100))
	}
}

// R3: no list and an empty one are the same.
func TestEmptyLists(t *testing.T) {
	for _, gates := range [][]api.Span{nil, {}} {
		if l, e := rain.Restore(tableL(), gates); len(l) != 0 || e != api.OK {
			t.Errorf("Restore from no gates: %v %d", l, e)
		}
	}
	for _, gates := range [][]int{nil, {}} {
		if l, e := rain.Pass(tableL(), gates); len(l) != 0 || e != api.OK {
			t.Errorf("Pass of no gates: %v %d", l, e)
		}
	}
	for _, l := range [][]rain.Point{nil, {}} {
		m := model()
		m.Loss = l
		wantErr(t, "CheckModel", rain.CheckModel(m), api.ErrEmpty)
		_, e := rain.Pass(l, nil)
		wantErr(t, "Pass", e, api.ErrEmpty)
		_, e = rain.Restore(l, nil)
		wantErr(t, "Restore", e, api.ErrEmpty)
	}
}

// R4: arguments stay as they are, and results share no memory.
func TestNewMemory(t *testing.T) {
	loss, powers, measured := tableL(), []int{1000, 900}, spans(900, 1100, 500, 500)
	for range 2 {
		passed := mustPass(t, loss, powers)
		restored := mustRestore(t, loss, measured)
		if !slices.Equal(passed, spans(1000, 1000, 450, 450)) || !slices.Equal(restored, spans(900, 1100, 909, 1000)) {
			t.Fatalf("Pass and Restore: %v and %v", passed, restored)
		}
		passed[0], restored[0] = pt(-7), pt(-7)
		if !slices.Equal(loss, tableL()) || powers[0] != 1000 || measured[0] != span(900, 1100) {
			t.Fatalf("arguments are changed: %v, %v, %v", loss, powers, measured)
		}
	}
	c := scene{model(), example(), earth(), hill(pt(0))}
	for range 2 {
		l := c.rates(t, 0)
		if !slices.Equal(l, spans(2000, 2000, 1800, 2000, 0, 200)) {
			t.Fatalf("Rates: %v", l)
		}
		f := mustMap(t, c, api.Grid{X: 0, Y: -400, Size: 1000, Wide: 1, High: 2})
		if !slices.Equal(f.Vals, spans(2000, 2000, 1800, 2000)) {
			t.Fatalf("Map: %v", f.Vals)
		}
		l[1], f.Vals[0] = pt(-7), pt(-7)
		if want := example(); !slices.EqualFunc(c.sweep.Rays, want.Rays, slices.Equal) || !slices.Equal(c.ground.Vals, hill(pt(0)).Vals) {
			t.Fatalf("arguments are changed: %v, %v", c.sweep, c.ground)
		}
		if !slices.Equal(c.model.Loss, model().Loss) || !slices.Equal(c.model.Rate, model().Rate) {
			t.Fatalf("the model is changed: %v", c.model)
		}
	}
	same := scene{model(), example(), earth(), hill(pt(0))}
	same.sweep.Rays[0][1] = same.sweep.Rays[0][0]
	f := mustMap(t, same, api.Grid{X: 0, Y: 300, Size: 100, Wide: 2, High: 2})
	f.Vals[0] = pt(-7)
	if f.Vals[1] == pt(-7) {
		t.Errorf("pixels share memory: %v", f.Vals)
	}
	readings, pairs := record(0, 360, 360, 100, 720, 720), []rain.Pair{pair(1000, 2000, 3, 200), pair(4000, 4000, 10, 200)}
	kept, before := slices.Clone(readings), slices.Clone(pairs)
	mustSum(t, readings, 200, 10)
	rain.Adjust(pairs)
	if !slices.Equal(readings, kept) || !slices.Equal(pairs, before) {
		t.Errorf("arguments are changed: %v, %v", readings, pairs)
	}
}
