package cast_test

import (
	"fmt"
	"testing"

	"radome/api"
	"radome/cast"
	"radome/cell"
)

// allCalls are calls of all functions, each of which reports whether it returned
// nothing, and its error.
func allCalls(g api.Grid, c cast.Cloud, k, l, m, n int) map[string]func() (bool, api.Errno) {
	x, y := span(k, l), span(m, n)
	flows := []cast.Flow{{}, c.Flow, {X: x, Y: y}}
	nothing := func(f cast.Flow, e api.Errno) (bool, api.Errno) { return f == cast.Flow{}, e }
	return map[string]func() (bool, api.Errno){
		"CheckFlow":  func() (bool, api.Errno) { return true, cast.CheckFlow(cast.Flow{X: x, Y: y}) },
		"CheckCloud": func() (bool, api.Errno) { return true, cast.CheckCloud(g, c) },
		"Fit":        func() (bool, api.Errno) { return nothing(cast.Fit(x, y, m, n)) },
		"Widen":      func() (bool, api.Errno) { return nothing(cast.Widen(c.Flow, m, n)) },
		"Hull":       func() (bool, api.Errno) { return nothing(cast.Hull(flows)) },
		"Meet": func() (bool, api.Errno) {
			f, pair, e := cast.Meet(flows)
			return f == cast.Flow{} && (pair == [2]int{} || e == api.ErrConflict), e
		},
		"Of": func() (bool, api.Errno) {
			made, e := cast.Of(g, cell.Area{Pixels: c.May, Kernels: [][]int{c.Sure, {k, l}}, X: x, Y: y}, c.Flow, m)
			return len(made.Sure) == 0 && len(made.May) == 0 && made.Flow == cast.Flow{} && made.Grow == 0, e
		},
		"At": func() (bool, api.Errno) {
			states, e := cast.At(g, []cast.Cloud{c, c}, k)
			return len(states) == 0, e
		},
		"When": func() (bool, api.Errno) {
			times, e := cast.When(g, c, k, l)
			return times == cast.Times{}, e
		},
		"Held": func() (bool, api.Errno) {
			pixels, e := cast.Held([]int{k, l, 0, 1, 2, 0}, api.Field{Grid: g, Vals: []api.Span{x, y, {}, {}, {}, {}}}, m)
			return len(pixels) == 0, e
		},
	}
}

// P0: every function ends, without a panic, for all arguments; R2: with an
// error, all other results are zero values.
func TestAnyArguments(t *testing.T) {
	changes := []func(g *api.Grid, c *cast.Cloud, m, n int){
		func(g *api.Grid, c *cast.Cloud, m, n int) {},
		func(g *api.Grid, c *cast.Cloud, m, n int) { g.X, g.Y = m, n },
		func(g *api.Grid, c *cast.Cloud, m, n int) { g.Size = m },
		func(g *api.Grid, c *cast.Cloud, m, n int) { g.Wide, g.High = m, n },
		func(g *api.Grid, c *cast.Cloud, m, n int) { c.Flow.X = span(m, n) },
		func(g *api.Grid, c *cast.Cloud, m, n int) { c.Flow.Y = span(m, n) },
		func(g *api.Grid, c *cast.Cloud, m, n int) { c.Grow = m },
		func(g *api.Grid, c *cast.Cloud, m, n int) { c.May = []int{m, n} },
		func(g *api.Grid, c *cast.Cloud, m, n int) { c.Sure = []int{m, n} },
		func(g *api.Grid, c *cast.Cloud, m, n int) { c.Sure, c.May = nil, nil },
	}
	good, fine := picture(flow(-7, 8, -9, maxRush), 10, "#?.", "??#")
	for i, change := range changes {
		for _, m := range extremes() {
			for _, n := range extremes() {
				g, c := good, copiedCloud(fine)
				change(&g, &c, m, n)
				for _, more := range [][4]int{{m, n, m, n}, {0, m, 5, n}, {m, 0, n, 5}} {
					for name, call := range allCalls(g, c, more[0], more[1], more[2], more[3]) {
						if isNothing, e := call(); e != api.OK && !isNothing {
							t.Errorf("%s, change %d with %d and %d: error %d, and a result", name, i, m, n, e)
						}
					}
				}
			}
		}
	}
}

// R4: no argument is changed, and the same calls lead to the same results.
func TestArguments(t *testing.T) {
	for seed := range 50 {
		n := &noise{state: uint64(11000 + seed)}
		g := n.grid(8)
		a, b := n.cloud(g, maxRush, maxGrow), n.cloud(g, maxRush, maxGrow)
		area := cell.Area{Pixels: a.May, Kernels: [][]int{{a.May[len(a.May)-1], a.May[0]}, a.Sure}}
		f := api.Field{Grid: g, Vals: make([]api.Span, g.Wide*g.High)}
		flows := []cast.Flow{a.Flow, b.Flow}
		states := at(t, g, 30, a, b)
		answers := func() string {
			var l []any
			for _, pixel := range []int{0, g.Wide*g.High - 1} {
				l = append(l, when(t, g, a, pixel, 100))
			}
			met, pair, e := cast.Meet(flows)
			hull, _ := cast.Hull(flows)
			return fmt.Sprint(append(l, at(t, g, 30, a, b), held(t, states, f, 5), cloudOf(t, g, area, a.Flow, 3), met, pair, e, hull)...)
		}
		before := fmt.Sprint(a, b, area, f, flows, states)
		first := answers()
		wantSame(t, "the same calls", answers(), first)
		wantSame(t, "the arguments", fmt.Sprint(a, b, area, f, flows, states), before)
	}
}

// spoil overwrites a list, and what it could grow into.
func spoil(l []int) {
	whole := l[:cap(l)]
	for i := range whole {
		whole[i] = -77
	}
}

// R4: results are new memory, which the caller can change.
func TestNewMemory(t *testing.T) {
	g, c := picture(flow(-7, 8, -9, 9), 10, "#?.", "??#")
	states := at(t, g, 0, c)
	spoil(states)
	wantSame(t, "the states", at(t, g, 0, c), []int{2, 1, 0, 1, 1, 2})
	f := fieldOf(span(9, 9), span(0, 0))
	spoil(held(t, []int{0, 2}, f, 5))
	wantSame(t, "what contradicts", held(t, []int{0, 2}, f, 5), []int{0, 1})

	for _, kernels := range [][][]int{nil, {{1, 3}}, {{1}, {3, 1}}} {
		a := cell.Area{Pixels: []int{1, 2, 3}, Kernels: kernels}
		before := fmt.Sprintf("%+v", a)
		made := cloudOf(t, g, a, c.Flow, 0)
		spoil(made.Sure)
		wantSame(t, "May, behind a change of Sure", made.May, []int{1, 2, 3})
		spoil(made.May)
		wantSame(t, "the area, behind a change of its cloud", a, before)
		made = cloudOf(t, g, a, c.Flow, 0)
		before = fmt.Sprintf("%+v", made)
		spoil(a.Pixels)
		for _, l := range a.Kernels {
			spoil(l)
		}
		wantSame(t, "a cloud, behind a change of its area", made, before)
	}
}
