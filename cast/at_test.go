package cast_test

import (
	"fmt"
	"slices"
	"testing"

	"radome/api"
	"radome/cast"
)

// P9.5: the states of small clouds, drawn; places just are met, or just are not.
func TestAtDrawn(t *testing.T) {
	for _, x := range []struct {
		what string
		flow cast.Flow
		grow int
		lead int
		from []string
		want []string
	}{
		{"at first", flow(-maxRush, maxRush, 5, 5), maxGrow, 0,
			[]string{".?#", "#?."}, []string{".?#", "#?."}},
		{"at rest", cast.Flow{}, 0, maxLead,
			[]string{".?#", "#?."}, []string{".?#", "#?."}},
		{"just not by one column", flow(1000, 1000, 0, 0), 0, 999,
			[]string{"##...", "....."}, []string{"?#?..", "....."}},
		{"just by one column", flow(1000, 1000, 0, 0), 0, 1000,
			[]string{"##...", "....."}, []string{".##..", "....."}},
		{"a little more than one column", flow(1000, 1000, 0, 0), 0, 1001,
			[]string{"##...", "....."}, []string{".?#?.", "....."}},
		{"by one column back", flow(-1000, -1000, 0, 0), 0, 1000,
			[]string{"..##.", "....."}, []string{".##..", "....."}},
		{"a little less than one column back", flow(-1000, -1000, 0, 0), 0, 999,
			[]string{"..##.", "....."}, []string{".?#?.", "....."}},
		{"by two rows", flow(0, 0, 2000, 2000), 0, 1000,
			[]string{".#.", ".?.", "...", "..."}, []string{"...", "...", ".#.", ".?."}},
		{"a little more than one row back", flow(0, 0, -1001, -1001), 0, 1000,
			[]string{"...", "...", ".##", ".##"}, []string{".??", ".##", ".??", "..."}},
		{"by a column and a row", flow(1000, 1000, -1000, -1000), 0, 1000,
			[]string{"....", "?##.", ".##."}, []string{".?##", "..##", "...."}},
		{"which can stay", flow(0, 1000, 0, 0), 0, 1000,
			[]string{"###..", "....."}, []string{"?##?.", "....."}},
		{"which may grow a little", flow(0, 0, 0, 0), 1, 1,
			[]string{".....", ".###.", ".###.", ".###.", "....."}, []string{"?????", "?????", "??#??", "?????", "?????"}},
		{"which may grow by one pixel", flow(0, 0, 0, 0), maxGrow, 100,
			[]string{".....", ".###.", ".###.", ".###.", "....."}, []string{"?????", "?????", "??#??", "?????", "?????"}},
		{"which may grow by a little more", flow(0, 0, 0, 0), maxGrow, 101,
			[]string{"......", "......", "......", "...#..", "......"}, []string{"......", ".?????", ".?????", ".?????", ".?????"}},
		{"from outside in the west", flow(1000, 1000, 0, 0), 0, 1000,
			[]string{"####", "####"}, []string{".###", ".###"}},
		{"from outside in the east", flow(-1000, -1000, 0, 0), 0, 1000,
			[]string{"####", "####"}, []string{"###.", "###."}},
		{"from outside in the south", flow(0, 0, 1000, 1000), 0, 1000,
			[]string{"####", "####"}, []string{"....", "####"}},
		{"from outside in the north", flow(0, 0, -1000, -1000), 0, 1000,
			[]string{"####", "####"}, []string{"####", "...."}},
		{"from outside, perhaps, on all sides", flow(-1, 1, -1, 1), 0, 1,
			[]string{"####", "####", "####"}, []string{"????", "?##?", "????"}},
		{"the next row is no neighbor", flow(1000, 1000, 0, 0), 0, 1000,
			[]string{"..#", "...", "..."}, []string{"...", "...", "..."}},
		{"gone", flow(maxRush, maxRush, 0, 0), 0, maxLead,
			[]string{"###", "###"}, []string{"...", "..."}},
		{"anywhere", flow(-maxRush, maxRush, -maxRush, maxRush), maxGrow, maxLead,
			[]string{"###", "###"}, []string{"???", "???"}},
		{"without what is sure", flow(1000, 1000, 0, 0), 0, 1000,
			[]string{"??.", "..."}, []string{".??", "..."}},
		{"one pixel", flow(1, 1, 0, 0), 0, 1, []string{"#"}, []string{"?"}},
		{"one pixel at rest", cast.Flow{}, 0, maxLead, []string{"#"}, []string{"#"}},
		{"one row", flow(0, 0, 1, 1), 0, 1, []string{"#?#."}, []string{"???."}},
		{"one column", flow(0, 0, 1000, 1000), 0, 1000, []string{"#", "?", "."}, []string{".", "#", "?"}},
	} {
		g, c := picture(x.flow, x.grow, x.from...)
		wantSame(t, x.what, drawn(g, at(t, g, x.lead, c)), x.want)
	}
}

// P9.5: states are as the chapter defines them.
func TestAtByDefinition(t *testing.T) {
	seen := [3]int{}
	for seed := range 600 {
		n := &noise{state: uint64(1000 + seed)}
		g := n.grid(9)
		l := []cast.Cloud{}
		for range n.upTo(3) {
			l = append(l, n.cloud(g, n.of(50, 2000, maxRush), maxGrow/n.of(1, 10, 1000)))
		}
		for _, lead := range []int{0, 1, n.upTo(60), n.upTo(200), n.of(10, 100, 500)} {
			states := at(t, g, lead, l...)
			wantSame(t, fmt.Sprintf("%+v at %d", l, lead), states, wantStates(g, l, lead))
			for _, s := range states {
				seen[s]++
			}
		}
	}
	if slices.Min(seen[:]) < 500 {
		t.Errorf("seen: %v", seen)
	}
}

// P9.5: a grid of 64 by 64, all of which is covered for sure, and moves to the
// south-east: what comes from outside is not sure, or not met.
func TestAtOnGreatGrid(t *testing.T) {
	g := grid(64, 64)
	c := cast.Cloud{May: all(g), Sure: all(g), Flow: flow(1000, 2000, -3000, -1000)}
	for _, x := range []struct{ lead, sure, met int }{
		{0, 64 * 64, 64 * 64},
		{1, 63 * 63, 64 * 64},
		{999, 62 * 61, 64 * 64},
		{1000, 62 * 61, 63 * 63},
		{1001, 61 * 60, 63 * 63},
		{7200, 49 * 42, 57 * 57},
	} {
		sure, met := 0, 0
		for pixel, s := range at(t, g, x.lead, c) {
			if s == cast.Sure {
				sure++
			}
			if s != cast.Clear {
				met++
			}
			if pixel%97 == 0 {
				wantSame(t, fmt.Sprint("the pixel ", pixel), s, wantState(g, c, pixel, x.lead))
			}
		}
		wantSame(t, fmt.Sprint("how many are sure, and met, at ", x.lead), []int{sure, met}, []int{x.sure, x.met})
	}
}

// P9.5: the greatest rush takes what is in a corner out of the greatest grid, and
// its sources are far outside.
func TestAtFarAway(t *testing.T) {
	g := grid(64, 64)
	one := cast.Cloud{May: []int{0}, Sure: []int{0}, Flow: flow(8000, 8750, 8750, 8750)}
	for pixel, s := range at(t, g, maxLead, one) { // by 57.6 to 63 columns, and by 63 rows
		want := cast.Clear
		if pixel >= 63*64+57 {
			want = cast.Maybe
		}
		wantSame(t, fmt.Sprint("the pixel ", pixel), s, want)
	}
	one.Flow.X = span(8750, 8750)
	states := at(t, g, maxLead, one)
	wantSame(t, "the last pixel", states[64*64-1], cast.Sure)
	wantSame(t, "how many are met", 64*64-count(states, cast.Clear), 1)
	one.Flow = flow(maxRush, maxRush, maxRush, maxRush)
	wantSame(t, "how many are met", 64*64-count(at(t, g, maxLead, one), cast.Clear), 0)
	one.Flow = flow(-maxRush, maxRush, -maxRush, maxRush)
	one.Grow = maxGrow
	wantSame(t, "how many are met, perhaps", count(at(t, g, maxLead, one), cast.Maybe), 64*64)
}

func count(l []int, n int) int {
	found := 0
	for _, m := range l {
		if m == n {
			found++
		}
	}
	return found
}

// P9.5: without clouds all is clear; of several ones the greatest state counts;
// there can be 64.
func TestAtManyClouds(t *testing.T) {
	for _, g := range []api.Grid{grid(1, 1), grid(7, 1), grid(1, 7), grid(64, 64)} {
		wantSame(t, "no clouds", at(t, g, 100), make([]int, g.Wide*g.High))
	}
	g, a := picture(cast.Flow{}, 0, "#??..", "#??..")
	_, b := picture(cast.Flow{}, 0, "..##.", "..?#.")
	wantSame(t, "two clouds", drawn(g, at(t, g, 0, a, b)), []string{"#?##.", "#??#."})
	great := grid(64, 64)
	var l []cast.Cloud
	for i := range 64 {
		l = append(l, cast.Cloud{Sure: []int{4095 - i}, May: []int{i, 4095 - i}, Flow: flow(0, 0, 500*i, 500*i)})
	}
	wantSame(t, "64 clouds", at(t, great, 1000, l...), wantStates(great, l, 1000))
	states, e := cast.At(great, append(l, l[0]), 1000)
	wantErr(t, "65 clouds", e, api.ErrMany)
	wantSame(t, "65 clouds", states, []int{})
}

// P9.5: the errors of At come in their order.
func TestAtErrors(t *testing.T) {
	g, good := picture(cast.Flow{}, 0, ".#?...", "......", "......")
	wantNone := func(what string, g api.Grid, l []cast.Cloud, lead int, want api.Errno) {
		t.Helper()
		states, e := cast.At(g, l, lead)
		wantErr(t, what, e, want)
		if e != api.OK {
			wantSame(t, "the states of "+what, states, []int{})
		}
	}
	wantRange(t, "lead", 0, maxLead, func(n int) api.Errno {
		_, e := cast.At(g, []cast.Cloud{good}, n)
		return e
	})
	wantRange(t, "lead without clouds", 0, maxLead, func(n int) api.Errno {
		_, e := cast.At(g, nil, n)
		return e
	})
	many := make([]cast.Cloud, 65) // all of which have no pixels
	for name, bad := range badGrids() {
		wantNone(name, bad, nil, 0, api.ErrRange)
		wantNone(name+", too many clouds", bad, many, -1, api.ErrRange)
	}
	wantNone("too many clouds", g, many, -1, api.ErrMany)
	wantNone("clouds without pixels", g, many[:64], -1, api.ErrEmpty)
	for i, x := range worse() {
		wantNone(fmt.Sprint("a cloud, case ", i), g, []cast.Cloud{x.c}, 7201, x.e)
		wantNone(fmt.Sprint("the first cloud with an error, case ", i), g, []cast.Cloud{good, x.c, {}}, 0, x.e)
		wantNone(fmt.Sprint("the first cloud with an error, ahead of the case ", i), g, []cast.Cloud{good, {}, x.c}, 0, api.ErrEmpty)
	}
}

// P9.7: whatever a cloud does in truth, what is clear has no part that is covered,
// and what is sure is covered as a whole.
func TestTruth(t *testing.T) {
	whole, part := 0, 0
	for seed := range 1200 {
		n := &noise{state: uint64(2000 + seed)}
		g := n.grid(7)
		c := n.cloud(g, n.of(2000, 30000, maxRush), maxGrow)
		lead := n.of(1, 10, n.upTo(60), n.upTo(200))
		r, states := n.course(g, c, lead), at(t, g, lead, c)
		for pixel, s := range states {
			isMet, isWhole := r.truth(placeOf(g, pixel), lead)
			if s == cast.Clear && isMet || s == cast.Sure && !isWhole {
				t.Fatalf("%+v on %+v at %d: the pixel %d has the state %d, and %+v is %v %v", c, g, lead, pixel, s, r, isMet, isWhole)
			}
			if isMet {
				part++
			}
			if isWhole {
				whole++
			}
		}
	}
	if whole < 1000 || part < whole+1000 {
		t.Errorf("%d pixels are covered, %d in part", whole, part)
	}
}

// P9.7: no states say less than they could, where a cloud is one pixel: some
// course of it covers each pixel that may be covered, and leaves out each one
// that is not sure.
func TestTruthIsNear(t *testing.T) {
	g := grid(5, 5)
	c := cast.Cloud{Sure: []int{12}, May: []int{12}, Flow: flow(-15000, 5000, 0, 20000), Grow: 1000}
	for _, lead := range []int{0, 40, 50, 100} {
		states := at(t, g, lead, c)
		met := map[int]bool{}
		for _, x := range []int{-15000, -10000, -5000, 0, 5000} {
			for _, y := range []int{0, 5000, 10000, 15000, 20000} {
				r := course{first: places(g, c.May), x: x, y: y, out: make([]int, lead+1)}
				r.out[lead] = lead * c.Grow
				for pixel := range states {
					if isMet, _ := r.truth(placeOf(g, pixel), lead); isMet {
						met[pixel] = true
					}
				}
			}
		}
		for pixel, s := range states {
			if (s != cast.Clear) != met[pixel] {
				t.Errorf("at %d the pixel %d has the state %d, and some course meets it: %v", lead, pixel, s, met[pixel])
			}
		}
	}
}

// P9.8: if more is known of a cloud, nothing that was sure or clear changes; with
// clouds besides no state becomes less; their order does not matter.
func TestNarrower(t *testing.T) {
	changed := 0
	for seed := range 2000 {
		n := &noise{state: uint64(3000 + seed)}
		g := n.grid(8)
		c := n.cloud(g, n.of(1000, 20000, maxRush), maxGrow)
		less, lead := n.narrower(c), n.upTo(100)
		before, behind := at(t, g, lead, c), at(t, g, lead, less)
		for pixel, s := range before {
			if s != behind[pixel] {
				changed++
				if s != cast.Maybe {
					t.Errorf("%+v at %d: the state of %d is %d, and %d for %+v", c, lead, pixel, s, behind[pixel], less)
				}
			}
		}
		other, third := n.cloud(g, maxRush, maxGrow), n.cloud(g, maxRush, maxGrow)
		both := at(t, g, lead, c, other)
		for pixel, s := range before {
			if both[pixel] < s {
				t.Errorf("%+v and %+v at %d: the state of %d is less", c, other, lead, pixel)
			}
		}
		wantSame(t, "another order", at(t, g, lead, third, other, c), at(t, g, lead, c, third, other))
		wantSame(t, "a cloud twice", at(t, g, lead, c, c), before)
	}
	if changed < 1000 {
		t.Errorf("%d states changed", changed)
	}
}

// P9.9: clouds that are moved have the same states where they are moved to.
func TestMoved(t *testing.T) {
	for seed := range 600 {
		n := &noise{state: uint64(4000 + seed)}
		small := n.grid(6)
		c := n.cloud(small, n.of(1000, 20000, maxRush), maxGrow)
		x, y := n.upTo(5), n.upTo(5)
		g := grid(small.Wide+5, small.High+5)
		move := func(pixel, x, y int) int {
			at := placeOf(small, pixel)
			return (at.y+y)*g.Wide + at.x + x
		}
		put := func(x, y int) cast.Cloud {
			moved := copiedCloud(c)
			for _, l := range [][]int{moved.Sure, moved.May} {
				for i, pixel := range l {
					l[i] = move(pixel, x, y)
				}
			}
			return moved
		}
		lead := n.upTo(100)
		before, behind := at(t, g, lead, put(0, 0)), at(t, g, lead, put(x, y))
		for pixel := range small.Wide * small.High {
			from, to := move(pixel, 0, 0), move(pixel, x, y)
			wantSame(t, fmt.Sprintf("%+v, moved by %d, %d, at %d", c, x, y, lead), behind[to], before[from])
		}
	}
}

// P9.9: at the lead 0 the states are those of the lists, whatever the flow.
func TestAtFirst(t *testing.T) {
	for seed := range 300 {
		n := &noise{state: uint64(4500 + seed)}
		g := n.grid(12)
		c := n.cloud(g, maxRush, maxGrow)
		want := make([]int, g.Wide*g.High)
		for _, pixel := range c.May {
			want[pixel] = cast.Maybe
		}
		for _, pixel := range c.Sure {
			want[pixel] = cast.Sure
		}
		wantSame(t, "at the lead 0", at(t, g, 0, c), want)
	}
}
