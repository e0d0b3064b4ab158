package cast_test

import (
	"fmt"
	"math"
	"testing"

	"radome/api"
	"radome/cast"
)

const (
	maxRush  = 100000
	maxGrow  = 10000
	maxLead  = 7200
	maxPower = 1073741824
)

func span(lo, hi int) api.Span { return api.Span{Lo: lo, Hi: hi} }

func grid(wide, high int) api.Grid {
	return api.Grid{X: -300, Y: 70, Size: 1000, Wide: wide, High: high}
}

// flow returns one of the rushes from x0 to x1, and from y0 to y1.
func flow(x0, x1, y0, y1 int) cast.Flow { return cast.Flow{X: span(x0, x1), Y: span(y0, y1)} }

// picture returns a cloud, row by row from the south, and its grid: a # is
// covered for sure, a ? at most, and a . is not.
func picture(f cast.Flow, grow int, rows ...string) (api.Grid, cast.Cloud) {
	g, c := grid(len(rows[0]), len(rows)), cast.Cloud{Flow: f, Grow: grow}
	for y, row := range rows {
		for x, mark := range row {
			pixel := y*g.Wide + x
			if mark == '#' {
				c.Sure = append(c.Sure, pixel)
			}
			if mark == '#' || mark == '?' {
				c.May = append(c.May, pixel)
			}
		}
	}
	return g, c
}

// drawn returns states, row by row from the south, in the marks of pictures.
func drawn(g api.Grid, states []int) []string {
	var rows []string
	for y := range g.High {
		row := ""
		for _, s := range states[y*g.Wide : (y+1)*g.Wide] {
			row += string(".?#"[s])
		}
		rows = append(rows, row)
	}
	return rows
}

// all returns the numbers of all pixels of a grid.
func all(g api.Grid) []int {
	l := make([]int, g.Wide*g.High)
	for i := range l {
		l[i] = i
	}
	return l
}

// copiedCloud returns a cloud that shares nothing with another one.
func copiedCloud(c cast.Cloud) cast.Cloud {
	c.Sure = append([]int(nil), c.Sure...)
	c.May = append([]int(nil), c.May...)
	return c
}

// badGrids are some that are not valid.
func badGrids() map[string]api.Grid {
	l := map[string]api.Grid{"no grid": {}}
	for name, change := range map[string]func(g *api.Grid){
		"too far east":  func(g *api.Grid) { g.X = 1048577 },
		"too far south": func(g *api.Grid) { g.Y = -1048577 },
		"no size":       func(g *api.Grid) { g.Size = 0 },
		"too large":     func(g *api.Grid) { g.Size = 10001 },
		"too wide":      func(g *api.Grid) { g.Wide = 65 },
		"no rows":       func(g *api.Grid) { g.High = 0 },
	} {
		g := grid(6, 3)
		change(&g)
		l[name] = g
	}
	return l
}

// badFlows are some that are not valid.
func badFlows() []cast.Flow {
	var l []cast.Flow
	for _, s := range []api.Span{
		span(1, 0), span(-5, -6), span(-maxRush-1, 0), span(0, maxRush+1), span(maxRush+1, maxRush+1), span(-maxRush-1, -maxRush-1),
		span(math.MinInt, 0), span(0, math.MaxInt), span(math.MaxInt, math.MinInt),
	} {
		l = append(l, cast.Flow{X: s, Y: span(0, 0)}, cast.Flow{X: span(0, 0), Y: s})
	}
	return l
}

// extremes are numbers that no argument may be spoiled by.
func extremes() []int {
	return []int{math.MinInt, math.MinInt + 1, -1 << 32, -maxRush, -1, 0, 1, 2, 3, 64, 65, maxLead, maxGrow, maxRush, 1 << 30, 1<<30 + 1, 1 << 32, math.MaxInt - 1, math.MaxInt}
}

// wantSame checks that two results are the same; nil lists and empty ones are.
func wantSame(t *testing.T, what string, got, want any) {
	t.Helper()
	if g, w := fmt.Sprintf("%+v", got), fmt.Sprintf("%+v", want); g != w {
		t.Errorf("%s: %s, want %s", what, g, w)
	}
}

func wantErr(t *testing.T, what string, got, want api.Errno) {
	t.Helper()
	if got != want {
		t.Errorf("%s: error %d, want %d", what, got, want)
	}
}

// wantRange checks that a number leads to no error exactly from the least one to
// the most.
func wantRange(t *testing.T, what string, least, most int, call func(n int) api.Errno) {
	t.Helper()
	for n, want := range map[int]api.Errno{
		least: api.OK, most: api.OK,
		least - 1: api.ErrRange, most + 1: api.ErrRange, math.MinInt: api.ErrRange, math.MaxInt: api.ErrRange,
	} {
		wantErr(t, fmt.Sprint(what, " ", n), call(n), want)
	}
}

func at(t *testing.T, g api.Grid, lead int, l ...cast.Cloud) []int {
	t.Helper()
	states, e := cast.At(g, l, lead)
	wantErr(t, "At", e, api.OK)
	if len(states) != g.Wide*g.High {
		t.Fatalf("%d states on %+v", len(states), g)
	}
	return states
}

func when(t *testing.T, g api.Grid, c cast.Cloud, pixel, lead int) cast.Times {
	t.Helper()
	x, e := cast.When(g, c, pixel, lead)
	wantErr(t, "When", e, api.OK)
	return x
}

func meet(t *testing.T, l ...cast.Flow) cast.Flow {
	t.Helper()
	f, pair, e := cast.Meet(l)
	wantErr(t, "Meet", e, api.OK)
	wantSame(t, "the pair of flows that meet", pair, [2]int{})
	return f
}

func fit(t *testing.T, x, y api.Span, seconds, slack int) cast.Flow {
	t.Helper()
	f, e := cast.Fit(x, y, seconds, slack)
	wantErr(t, "Fit", e, api.OK)
	return f
}

func widen(t *testing.T, f cast.Flow, change, seconds int) cast.Flow {
	t.Helper()
	wide, e := cast.Widen(f, change, seconds)
	wantErr(t, "Widen", e, api.OK)
	return wide
}

// noise yields numbers that look like random ones, and are always the same.
type noise struct{ state uint64 }

func (n *noise) upTo(most int) int {
	n.state = n.state*6364136223846793005 + 1442695040888963407
	return int(n.state>>33) % (most + 1)
}

func (n *noise) from(least, most int) int { return least + n.upTo(most-least) }

func (n *noise) of(l ...int) int { return l[n.upTo(len(l)-1)] }

// grid returns a small one; some are one row or one column.
func (n *noise) grid(most int) api.Grid {
	switch n.upTo(9) {
	case 0:
		return grid(1+n.upTo(most-1), 1)
	case 1:
		return grid(1, 1+n.upTo(most-1))
	}
	return grid(1+n.upTo(most-1), 1+n.upTo(most-1))
}

// rush returns a span within minus a number to this number; some are points.
func (n *noise) rush(most int) api.Span {
	lo := n.from(-most, most)
	return span(lo, lo+n.upTo(min(most-lo, n.of(0, most/4, 2*most))))
}

func (n *noise) flow(most int) cast.Flow { return cast.Flow{X: n.rush(most), Y: n.rush(most)} }

// cloud returns one on a grid; of some more pixels are covered than of others.
func (n *noise) cloud(g api.Grid, rush, grow int) cast.Cloud {
	c := cast.Cloud{Flow: n.flow(rush), Grow: n.of(0, n.upTo(grow), n.upTo(grow))}
	dense, sure := n.from(1, 10), n.upTo(10)
	for pixel := range g.Wide * g.High {
		if n.upTo(9) < dense {
			c.May = append(c.May, pixel)
			if n.upTo(9) < sure {
				c.Sure = append(c.Sure, pixel)
			}
		}
	}
	if len(c.May) == 0 {
		c.May = []int{n.upTo(g.Wide*g.High - 1)}
	}
	return c
}

// within returns a span within another one.
func (n *noise) within(s api.Span) api.Span {
	lo := s.Lo + n.of(0, n.upTo(s.Hi-s.Lo))
	return span(lo, lo+n.of(s.Hi-lo, n.upTo(s.Hi-lo)))
}

// narrower returns a cloud of which no less is known than of another one.
func (n *noise) narrower(c cast.Cloud) cast.Cloud {
	less := cast.Cloud{Flow: cast.Flow{X: n.within(c.Flow.X), Y: n.within(c.Flow.Y)}, Grow: n.of(c.Grow, n.upTo(c.Grow))}
	isSure := set(c.Sure)
	for _, pixel := range c.May {
		chance := n.upTo(9)
		if isSure[pixel] || chance < 2 {
			less.Sure = append(less.Sure, pixel)
		}
		if isSure[pixel] || chance < 8 {
			less.May = append(less.May, pixel)
		}
	}
	if len(less.May) == 0 {
		less.May = c.May[:1]
	}
	return less
}
