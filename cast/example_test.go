package cast_test

import (
	"testing"

	"radome/api"
	"radome/cast"
)

// exampleC and exampleD are the clouds of the chapter's examples, on its grid.
func exampleC() cast.Cloud {
	return cast.Cloud{Sure: []int{7, 8}, May: []int{6, 7, 8}, Flow: flow(1000, 1000, 0, 0)}
}

func exampleD() cast.Cloud {
	c := exampleC()
	c.Flow.X.Hi, c.Grow = 2000, 100
	return c
}

// P9.5: the chapter's examples of At and When.
func TestExamplesOfStates(t *testing.T) {
	g := api.Grid{Size: 1000, Wide: 6, High: 3}
	none := []int{0, 0, 0, 0, 0, 0}
	for _, x := range []struct {
		c    cast.Cloud
		lead int
		rows [3][]int
	}{
		{exampleC(), 0, [3][]int{none, {1, 2, 2, 0, 0, 0}, none}},
		{exampleC(), 1000, [3][]int{none, {0, 1, 2, 2, 0, 0}, none}},
		{exampleC(), 500, [3][]int{none, {1, 1, 2, 1, 0, 0}, none}},
		{exampleD(), 500, [3][]int{{1, 1, 1, 1, 1, 0}, {1, 1, 1, 1, 1, 0}, {1, 1, 1, 1, 1, 0}}},
	} {
		states := at(t, g, x.lead, x.c)
		for y, row := range x.rows {
			wantSame(t, "At", states[6*y:6*y+6], row)
		}
	}
	for pixel, want := range map[int]cast.Times{
		9:  {First: 1, Sure: 1000, Last: 3000, Least: 1001, Most: 3000},
		11: {First: 2001, Sure: 3000, Last: 3000, Least: 1, Most: 1000},
		0:  {First: -1, Sure: -1, Last: -1, Least: 0, Most: 0},
	} {
		wantSame(t, "When", when(t, g, exampleC(), pixel, 3000), want)
	}
}

// P9.2, P9.3: the chapter's examples of flows.
func TestExamplesOfFlows(t *testing.T) {
	one, zero := span(1, 1), span(0, 0)
	wantSame(t, "Fit", fit(t, one, zero, 1000, 0), flow(1000, 1000, 0, 0))
	wantSame(t, "Fit with a slack", fit(t, one, zero, 1000, 500), flow(500, 1500, -500, 500))
	_, e := cast.Fit(span(64, 64), zero, 300, 0)
	wantErr(t, "Fit of 64", e, api.ErrOver)
	l := []cast.Flow{flow(0, 10, 0, 0), flow(5, 20, 0, 0)}
	wantSame(t, "Meet", meet(t, l...), flow(5, 10, 0, 0))
	f, pair, e := cast.Meet(append(l, flow(30, 40, 0, 0)))
	wantErr(t, "Meet of three", e, api.ErrConflict)
	wantSame(t, "Meet of three", pair, [2]int{0, 2})
	wantSame(t, "Meet of three", f, cast.Flow{})
	wantSame(t, "Widen", widen(t, flow(5, 10, 0, 0), 100, 1800), flow(-45, 60, -50, 50))
}

// P9.6: the chapter's example of Held.
func TestExampleOfHeld(t *testing.T) {
	wantSame(t, "Held", held(t, []int{1, 2, 0}, fieldOf(span(0, 9), span(0, 4), span(5, 5)), 5), []int{1, 2})
}

// The numbers of the chapter, which other programs rely on.
func TestNumbers(t *testing.T) {
	wantSame(t, "the limits",
		[]int{cast.MaxRush, cast.MaxGrow, cast.MaxLead, cast.MaxSlack, cast.MaxShift, cast.MaxClouds, cast.MaxFlows},
		[]int{100000, 10000, 7200, 2000, 64, 64, 64})
	wantSame(t, "the states", []int{cast.Clear, cast.Maybe, cast.Sure}, []int{0, 1, 2})
}
