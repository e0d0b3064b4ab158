package cast_test

import (
	"fmt"
	"math"
	"testing"

	"radome/api"
	"radome/cast"
)

// P9.1: both spans of a flow are valid, and within -100,000 to 100,000.
func TestCheckFlow(t *testing.T) {
	for _, f := range []cast.Flow{
		{}, flow(0, 0, 0, 0), flow(-maxRush, maxRush, -maxRush, maxRush), flow(maxRush, maxRush, -maxRush, -maxRush), flow(-7, -7, 3, 4), flow(-9, -8, -1, 0),
	} {
		wantErr(t, fmt.Sprint("CheckFlow of ", f), cast.CheckFlow(f), api.OK)
	}
	for _, f := range badFlows() {
		wantErr(t, fmt.Sprint("CheckFlow of ", f), cast.CheckFlow(f), api.ErrRange)
	}
	wantRange(t, "X from 0 to", 0, maxRush, func(n int) api.Errno { return cast.CheckFlow(flow(0, n, 0, 0)) })
	wantRange(t, "X to 0 from", -maxRush, 0, func(n int) api.Errno { return cast.CheckFlow(flow(n, 0, 0, 0)) })
	wantRange(t, "Y from 0 to", 0, maxRush, func(n int) api.Errno { return cast.CheckFlow(flow(0, 0, 0, n)) })
	wantRange(t, "Y to 0 from", -maxRush, 0, func(n int) api.Errno { return cast.CheckFlow(flow(0, 0, n, 0)) })
}

// P9.1: clouds that are valid: without a pixel that is covered for sure, with all
// pixels, and on the least and the greatest grids.
func TestCheckCloudValid(t *testing.T) {
	for _, g := range []api.Grid{grid(1, 1), grid(5, 1), grid(1, 5), grid(6, 3), grid(64, 64)} {
		for _, c := range []cast.Cloud{
			{May: []int{0}}, {May: []int{0}, Sure: []int{0}}, {May: all(g)}, {May: all(g), Sure: all(g)}, {May: all(g), Sure: all(g)[:1]},
			{May: all(g)[g.Wide*g.High-1:], Sure: []int{}},
		} {
			wantErr(t, fmt.Sprint("CheckCloud on ", g), cast.CheckCloud(g, c), api.OK)
		}
	}
	wantRange(t, "Grow", 0, maxGrow, func(n int) api.Errno { return cast.CheckCloud(grid(6, 3), cast.Cloud{May: []int{3}, Grow: n}) })
}

// P9.1: the errors of the pixels of a cloud; of a grid of 6 by 3.
func TestCheckCloudPixels(t *testing.T) {
	for i, x := range []struct {
		may, sure []int
		e         api.Errno
	}{
		{nil, nil, api.ErrEmpty},
		{[]int{}, []int{1}, api.ErrEmpty},
		{[]int{18}, nil, api.ErrNone},
		{[]int{-1}, nil, api.ErrNone},
		{[]int{math.MaxInt}, nil, api.ErrNone},
		{[]int{math.MinInt}, nil, api.ErrNone},
		{[]int{0, 17}, []int{0, 17}, api.OK},
		{[]int{3, 3}, nil, api.ErrOrder},
		{[]int{4, 3}, nil, api.ErrOrder},
		{[]int{1, 2, 2, 3}, nil, api.ErrOrder},
		{[]int{3, -1}, nil, api.ErrNone},      // not there comes first
		{[]int{4, 3, 18}, nil, api.ErrOrder},  // the first element decides
		{[]int{4, 18, 3}, nil, api.ErrNone},   // the first element decides
		{[]int{5, 17, 18}, nil, api.ErrNone},  // the last one, too
		{[]int{4, 3}, []int{9}, api.ErrOrder}, // May comes first
		{[]int{4, 18}, []int{4, 4}, api.ErrNone},
		{[]int{1, 2, 3}, []int{2, 2}, api.ErrOrder},
		{[]int{1, 2, 3}, []int{3, 1}, api.ErrOrder},
		{[]int{1, 2, 3}, []int{0}, api.ErrShape},
		{[]int{1, 2, 3}, []int{1, 4}, api.ErrShape},
		{[]int{1, 3}, []int{2}, api.ErrShape},
		{[]int{1, 2, 3}, []int{-1}, api.ErrShape},
		{[]int{1, 2, 3}, []int{18}, api.ErrShape},
		{[]int{1, 2, 3}, []int{3, 0}, api.ErrOrder},    // the order comes first
		{[]int{1, 2, 3}, []int{4, 1}, api.ErrShape},    // the first element decides
		{[]int{1, 2, 3}, []int{2, 1, 9}, api.ErrOrder}, // the first element decides
		{[]int{1, 2, 3}, []int{1, 2, 3, 3}, api.ErrOrder},
	} {
		wantErr(t, fmt.Sprint("case ", i), cast.CheckCloud(grid(6, 3), cast.Cloud{May: x.may, Sure: x.sure}), x.e)
	}
}

// worse are clouds on a grid of 6 by 3, each with one more error than the one
// before it, which comes first.
func worse() []struct {
	c cast.Cloud
	e api.Errno
} {
	bad := flow(1, 0, 0, 0)
	return []struct {
		c cast.Cloud
		e api.Errno
	}{
		{cast.Cloud{May: []int{1}, Sure: []int{2}}, api.ErrShape},
		{cast.Cloud{May: []int{1}, Sure: []int{1, 0}}, api.ErrOrder},
		{cast.Cloud{May: []int{1, 18}, Sure: []int{1, 0}}, api.ErrNone},
		{cast.Cloud{Sure: []int{1, 0}}, api.ErrEmpty},
		{cast.Cloud{Sure: []int{1, 0}, Grow: -1}, api.ErrRange},
		{cast.Cloud{Sure: []int{1, 0}, Grow: -1, Flow: bad}, api.ErrRange},
	}
}

// P9.1: the errors of a cloud come in their order; that of the grid is first.
func TestCheckCloudOrder(t *testing.T) {
	for i, x := range worse() {
		wantErr(t, fmt.Sprint("case ", i), cast.CheckCloud(grid(6, 3), x.c), x.e)
		for name, g := range badGrids() {
			wantErr(t, name, cast.CheckCloud(g, x.c), api.ErrRange)
		}
	}
	for _, f := range badFlows() {
		wantErr(t, fmt.Sprint("the flow ", f), cast.CheckCloud(grid(6, 3), cast.Cloud{Flow: f}), api.ErrRange)
	}
	for name, g := range badGrids() {
		wantErr(t, name, cast.CheckCloud(g, cast.Cloud{May: []int{0}}), api.ErrRange)
	}
}
