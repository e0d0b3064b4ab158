package cast_test

import (
	"fmt"
	"testing"

	"radome/api"
	"radome/cast"
	"radome/cell"
)

func cloudOf(t *testing.T, g api.Grid, a cell.Area, f cast.Flow, grow int) cast.Cloud {
	t.Helper()
	c, e := cast.Of(g, a, f, grow)
	wantErr(t, "Of", e, api.OK)
	return c
}

// P9.4: the cloud of an area has all pixels of its kernels, each once, ascending.
func TestOf(t *testing.T) {
	f := flow(-3, 4, 5, 6)
	for _, x := range []struct {
		what    string
		kernels [][]int
		sure    []int
	}{
		{"no kernels", nil, nil},
		{"an empty kernel", [][]int{{}, nil}, nil},
		{"one kernel", [][]int{{2, 3}}, []int{2, 3}},
		{"kernels in order", [][]int{{2}, {4, 5}}, []int{2, 4, 5}},
		{"kernels out of order", [][]int{{5, 9}, {2, 4}}, []int{2, 4, 5, 9}},
		{"kernels within each other", [][]int{{2, 9}, {4, 5}}, []int{2, 4, 5, 9}},
		{"a pixel in several kernels", [][]int{{2, 4}, {4, 5}, {4}}, []int{2, 4, 5}},
		{"equal kernels", [][]int{{2, 4}, {2, 4}}, []int{2, 4}},
		{"a kernel that does not ascend", [][]int{{9, 4, 4, 2}}, []int{2, 4, 9}},
		{"all of it", [][]int{{1, 2, 3, 4, 5, 9, 17}}, []int{1, 2, 3, 4, 5, 9, 17}},
	} {
		may := []int{1, 2, 3, 4, 5, 9, 17}
		want := cast.Cloud{Sure: x.sure, May: may, Flow: f, Grow: 7}
		wantSame(t, x.what, cloudOf(t, grid(6, 3), cell.Area{Pixels: may, Kernels: x.kernels}, f, 7), want)
		// what the area says besides does not matter
		other := cell.Area{Pixels: may, Kernels: x.kernels, X: span(9, 8), Y: span(-1, 99), Sum: span(4, -4)}
		wantSame(t, x.what, cloudOf(t, grid(6, 3), other, f, 7), want)
	}
	for _, grow := range []int{0, maxGrow} {
		wantSame(t, "Grow", cloudOf(t, grid(1, 1), cell.Area{Pixels: []int{0}}, f, grow).Grow, grow)
	}
}

// P9.4: the clouds of all areas of a field have its pixels that are in, or may be.
func TestOfAreas(t *testing.T) {
	for seed := range 100 {
		n := &noise{state: uint64(10000 + seed)}
		f := api.Field{Grid: n.grid(9)}
		for range f.Grid.Wide * f.Grid.High {
			lo := n.upTo(7)
			f.Vals = append(f.Vals, span(lo, lo+n.of(0, n.upTo(4))))
		}
		areas, e := cell.Areas(f, 5)
		wantErr(t, "Areas", e, api.OK)
		var clouds []cast.Cloud
		for _, a := range areas {
			clouds = append(clouds, cloudOf(t, f.Grid, a, n.flow(maxRush), n.upTo(maxGrow)))
		}
		if len(clouds) > cast.MaxClouds {
			continue
		}
		for pixel, s := range at(t, f.Grid, 0, clouds...) {
			want := cast.Clear
			if f.Vals[pixel].Lo >= 5 {
				want = cast.Sure
			} else if f.Vals[pixel].Hi >= 5 {
				want = cast.Maybe
			}
			wantSame(t, fmt.Sprint("the pixel ", pixel), s, want)
		}
	}
}

// P9.4: the errors of Of are those of CheckCloud for the cloud, in its order.
func TestOfErrors(t *testing.T) {
	asked := func(g api.Grid, a cell.Area, f cast.Flow, grow int) api.Errno {
		c, e := cast.Of(g, a, f, grow)
		if e != api.OK {
			wantSame(t, "the cloud of an error", c, cast.Cloud{})
		}
		return e
	}
	g, zero, bad := grid(6, 3), cast.Flow{}, flow(1, 0, 0, 0)
	wantRange(t, "Grow", 0, maxGrow, func(n int) api.Errno { return asked(g, cell.Area{Pixels: []int{3}}, zero, n) })
	for i, x := range []struct {
		pixels  []int
		kernels [][]int
		e       api.Errno
	}{
		{nil, nil, api.ErrEmpty},
		{nil, [][]int{{3}}, api.ErrEmpty},
		{[]int{3}, [][]int{{3, 4}}, api.ErrShape},
		{[]int{3}, [][]int{{3}, {-1}}, api.ErrShape},
		{[]int{3}, [][]int{{99}}, api.ErrShape},
		{[]int{18}, nil, api.ErrNone},
		{[]int{-1, 0}, [][]int{{5}}, api.ErrNone},
		{[]int{4, 4}, [][]int{{5}}, api.ErrOrder},
		{[]int{5, 4}, [][]int{{4, 5}}, api.ErrOrder},
		{[]int{5, 4, 18}, nil, api.ErrOrder},
	} {
		a := cell.Area{Pixels: x.pixels, Kernels: x.kernels}
		wantErr(t, fmt.Sprint("case ", i), asked(g, a, zero, 0), x.e)
		wantErr(t, fmt.Sprint("Grow, case ", i), asked(g, a, zero, -1), api.ErrRange)
		wantErr(t, fmt.Sprint("a flow, case ", i), asked(g, a, bad, 0), api.ErrRange)
		for name, grid := range badGrids() {
			wantErr(t, name, asked(grid, a, zero, 0), api.ErrRange)
		}
	}
}
