package beam_test

import (
	"math"
	"slices"
	"testing"

	"radome/api"
	"radome/beam"
)

func groundAt(f api.Field, x, y int) api.Span {
	if n, e := beam.Pixel(f.Grid, x, y); e == api.OK {
		return f.Vals[n]
	}
	return api.Span{Lo: 0, Hi: api.MaxHeight}
}

// wantBlocked counts threads gate by gate, as the definition does.
func wantBlocked(s api.Site, tilt int, earth api.Span, f api.Field, ray int) []api.Span {
	l := make([]api.Span, s.Gates)
	for t := tilt - s.Width; t <= tilt+s.Width; t++ {
		surely, perhaps := false, false
		for j := range l {
			x, y := wantPlace(s, tilt, ray, j)
			land, air := groundAt(f, x, y), wantHeight(s, t, earth, j)
			surely = surely || land.Lo >= air.Hi
			perhaps = perhaps || land.Hi >= air.Lo
			if surely {
				l[j].Lo++
			}
			if surely || perhaps {
				l[j].Hi++
			}
		}
	}
	return l
}

// hills is a field of ground around a site: spans that are not higher than most.
func hills(n *noise, s api.Site, most int) api.Field {
	size := min(api.MaxSize, max(1, s.Gates*s.Step/6))
	g := api.Grid{X: coordinate(s.X - 3*size), Y: coordinate(s.Y - 3*size), Size: size, Wide: 6, High: 5}
	f := api.Field{Grid: g, Vals: make([]api.Span, g.Wide*g.High)}
	for i := range f.Vals {
		f.Vals[i] = n.span(api.Span{Lo: 0, Hi: most})
	}
	return f
}

// P1.7: counts, against their definition.
func TestBlocked(t *testing.T) {
	n := &noise{}
	different := map[api.Span]bool{}
	for _, s := range sites() {
		for round := range 40 {
			most := min(api.MaxHeight, s.Z+[]int{40, 400, 2000, 20000}[round%4])
			f := hills(n, s, most)
			tilt, ray := []int{0, 3, 9, 40, 256}[n.upTo(4)], n.upTo(4*s.Rose-1)
			earth := n.span(api.Span{Lo: beam.MinEarth, Hi: beam.MaxEarth})
			l, e := beam.Blocked(s, tilt, earth, f, ray)
			if want := wantBlocked(s, tilt, earth, f, ray); !slices.Equal(l, want) || e != api.OK {
				t.Fatalf("Blocked of %s, %d, %v, %d: %v %d, want %v", s.Name, tilt, earth, ray, l, e, want)
			}
			for _, x := range l {
				different[x] = true
			}
		}
	}
	if len(different) < 20 {
		t.Errorf("the hills say little: only %d different counts", len(different))
	}
}

func hill(v api.Span) api.Field {
	return api.Field{Grid: api.Grid{X: -5000, Y: -5000, Size: 5000, Wide: 2, High: 2}, Vals: []api.Span{{}, {}, {}, v}}
}

// P1.7: the example; the first and the last ray; ground that touches a thread.
func TestBlockedExamples(t *testing.T) {
	earth := pt(10000000)
	// The threads are at 98 to 100, 100 to 101, and 101 to 103 at the gate 0.
	for _, x := range []struct {
		ground api.Span
		ray    int
		want   api.Span
	}{
		{api.Span{Lo: 150, Hi: 200}, 0, pt(3)}, {api.Span{Lo: 150, Hi: 200}, 1, pt(3)},
		{api.Span{Lo: 150, Hi: 200}, 4, pt(0)}, {api.Span{Lo: 150, Hi: 200}, 7, pt(0)}, {api.Span{Lo: 150, Hi: 200}, 2, pt(0)},
		{api.Span{Lo: 103, Hi: 103}, 0, pt(3)}, {api.Span{Lo: 102, Hi: 102}, 0, api.Span{Lo: 2, Hi: 3}},
		{api.Span{Lo: 101, Hi: 101}, 0, api.Span{Lo: 2, Hi: 3}}, {api.Span{Lo: 100, Hi: 100}, 0, api.Span{Lo: 1, Hi: 2}},
		{api.Span{Lo: 99, Hi: 99}, 0, api.Span{Lo: 0, Hi: 1}}, {api.Span{Lo: 98, Hi: 98}, 0, api.Span{Lo: 0, Hi: 1}}, {api.Span{Lo: 97, Hi: 97}, 0, pt(0)},
		{api.Span{Lo: 0, Hi: 20000}, 0, api.Span{Lo: 0, Hi: 3}}, {api.Span{Lo: 20000, Hi: 20000}, 0, pt(3)},
	} {
		l, e := beam.Blocked(example(), 0, earth, hill(x.ground), x.ray)
		if len(l) != 4 || l[0] != x.want || e != api.OK {
			t.Errorf("Blocked by %v, ray %d: %v %d, want %v first", x.ground, x.ray, l, e, x.want)
		}
	}
	for ray, want := range map[int]api.Span{0: pt(3), 4: pt(0)} {
		if l, _ := beam.Blocked(example(), 0, earth, hill(api.Span{Lo: 150, Hi: 200}), ray); !slices.Equal(l, []api.Span{want, want, want, want}) {
			t.Errorf("Blocked, ray %d: %v", ray, l)
		}
	}
}

// P1.7: a hill that is further away is in the way from there on.
func TestBlockedFurtherAway(t *testing.T) {
	f := api.Field{Grid: api.Grid{X: 0, Y: 0, Size: 1000, Wide: 4, High: 4}, Vals: make([]api.Span, 16)}
	s := example()
	x, y, _ := beam.Place(s, 0, 0, 2)
	n, _ := beam.Pixel(f.Grid, x, y)
	f.Vals[n] = pt(500)
	if l, _ := beam.Blocked(s, 0, pt(10000000), f, 0); !slices.Equal(l, []api.Span{{}, {}, pt(3), pt(3)}) {
		t.Errorf("a hill at the gate 2: %v", l)
	}
	// The place of each gate is that of the axis at the tilt of the beam.
	s.Width = 8
	x, y, _ = beam.Place(s, 256, 0, 3)
	n, _ = beam.Pixel(f.Grid, x, y)
	f.Vals = make([]api.Span, 16)
	f.Vals[n] = pt(20000)
	if l, _ := beam.Blocked(s, 256, pt(10000000), f, 0); l[3] != pt(17) || l[0] != pt(0) {
		t.Errorf("a hill at the gate 3 of a steep beam: %v", l)
	}
}

// P1.7: outside of the grid nothing is known of the ground.
func TestBlockedOutside(t *testing.T) {
	far := hill(pt(0))
	far.Grid.X = 100000
	unknown := api.Span{Lo: 0, Hi: 3}
	if l, e := beam.Blocked(example(), 0, pt(10000000), far, 0); !slices.Equal(l, []api.Span{unknown, unknown, unknown, unknown}) || e != api.OK {
		t.Errorf("Blocked without known ground: %v %d", l, e)
	}
	// A site at the sea has a thread at -2 to 0, and no ground is below 0.
	low := example()
	low.Z = 0
	if l, _ := beam.Blocked(low, 0, pt(10000000), far, 0); len(l) != 4 || l[0] != (api.Span{Lo: 1, Hi: 3}) {
		t.Errorf("Blocked at the sea: %v", l)
	}
	high := example()
	high.Z = 20000
	if l, _ := beam.Blocked(high, 256, pt(10000000), far, 0); !slices.Equal(l, make([]api.Span, 4)) {
		t.Errorf("Blocked above all ground: %v", l)
	}
}

// P1.7: what is out of range; ErrName and ErrShape come ahead of it.
func TestBlockedErrors(t *testing.T) {
	good, earth := hill(pt(0)), pt(10000000)
	for i, x := range []struct {
		tilt  int
		earth api.Span
		f     api.Field
		ray   int
		want  api.Errno
	}{
		{0, earth, good, 0, api.OK}, {256, earth, good, 7, api.OK}, {0, api.Span{Lo: 1000000, Hi: 100000000}, good, 0, api.OK},
		{0, earth, hill(api.Span{Lo: 0, Hi: 20000}), 0, api.OK},
		{0, earth, hill(api.Span{Lo: 0, Hi: 20001}), 0, api.ErrRange}, {0, earth, hill(pt(20001)), 0, api.ErrRange},
		{0, earth, hill(api.Span{Lo: -1, Hi: 0}), 0, api.ErrRange}, {0, earth, hill(api.Span{Lo: 2, Hi: 1}), 0, api.ErrRange},
		{-1, earth, good, 0, api.ErrRange}, {257, earth, good, 0, api.ErrRange}, {math.MinInt, earth, good, 0, api.ErrRange},
		{0, pt(999999), good, 0, api.ErrRange}, {0, pt(100000001), good, 0, api.ErrRange}, {0, api.Span{Lo: 3000000, Hi: 2000000}, good, 0, api.ErrRange},
		{0, earth, good, -1, api.ErrRange}, {0, earth, good, 8, api.ErrRange}, {0, earth, good, math.MaxInt, api.ErrRange},
		{-1, pt(0), api.Field{Grid: good.Grid, Vals: []api.Span{{Lo: 9}}}, -1, api.ErrShape},
		{-1, pt(0), api.Field{}, -1, api.ErrRange},
	} {
		l, e := beam.Blocked(example(), x.tilt, x.earth, x.f, x.ray)
		if e != x.want || e != api.OK && len(l) != 0 || e == api.OK && len(l) != 4 {
			t.Errorf("Blocked %d: %v %d, want %d", i, l, e, x.want)
		}
	}
}

// P1.11: counts never become less along a ray, and are bounded.
func TestBlockedGrows(t *testing.T) {
	n := &noise{state: 5}
	for _, s := range sites() {
		for range 20 {
			f := hills(n, s, min(api.MaxHeight, s.Z+300))
			l, _ := beam.Blocked(s, n.upTo(12), pt(8495000), f, n.upTo(4*s.Rose-1))
			before := api.Span{}
			for _, x := range l {
				if x.Lo < before.Lo || x.Hi < before.Hi || !isWithin(x, api.Span{Lo: 0, Hi: 2*s.Width + 1}) {
					t.Fatalf("Blocked of %s: %v", s.Name, l)
				}
				before = x
			}
		}
	}
}

// P1.11, G1: closer bounds lead to closer counts, and so do the truths.
func TestBlockedBounds(t *testing.T) {
	n := &noise{state: 7}
	for _, s := range sites() {
		for range 20 {
			wide := hills(n, s, min(api.MaxHeight, s.Z+300))
			outer := n.span(api.Span{Lo: beam.MinEarth, Hi: beam.MaxEarth})
			inner, narrow := n.span(outer), api.Field{Grid: wide.Grid}
			for _, v := range wide.Vals {
				narrow.Vals = append(narrow.Vals, n.span(v))
			}
			tilt, ray := n.upTo(12), n.upTo(4*s.Rose-1)
			loose, _ := beam.Blocked(s, tilt, outer, wide, ray)
			tight, e := beam.Blocked(s, tilt, inner, narrow, ray)
			if len(tight) != s.Gates || e != api.OK {
				t.Fatalf("Blocked of %s: %d", s.Name, e)
			}
			radius := inner.Lo + n.upTo(inner.Hi-inner.Lo)
			truth := trulyBlocked(n, s, tilt, radius, narrow, ray)
			for j := range tight {
				if !isWithin(tight[j], loose[j]) {
					t.Fatalf("gate %d of %s: %v, not in %v", j, s.Name, tight[j], loose[j])
				}
				if truth[j] < tight[j].Lo || truth[j] > tight[j].Hi {
					t.Fatalf("gate %d of %s: truly %d, not in %v", j, s.Name, truth[j], tight[j])
				}
			}
		}
	}
}

// trulyBlocked counts the threads that meet a ground that is within a field.
func trulyBlocked(n *noise, s api.Site, tilt, radius int, f api.Field, ray int) []int {
	truth := api.Field{Grid: f.Grid}
	for _, v := range f.Vals {
		truth.Vals = append(truth.Vals, pt(v.Lo+n.upTo(v.Hi-v.Lo)))
	}
	l := make([]int, s.Gates)
	for thread := tilt - s.Width; thread <= tilt+s.Width; thread++ {
		blocked := false
		for j := range l {
			x, y, _ := beam.Place(s, tilt, ray, j)
			land := groundAt(truth, x, y).Lo // 0 where nothing is known
			blocked = blocked || rat(land, 1).Cmp(exactHeight(s, thread, radius, j)) >= 0
			if blocked {
				l[j]++
			}
		}
	}
	return l
}

// P1.11: if no ground becomes lower, no count becomes less.
func TestBlockedByMore(t *testing.T) {
	n := &noise{state: 11}
	for _, s := range sites() {
		for range 20 {
			low := hills(n, s, min(api.MaxHeight, s.Z+200))
			high := api.Field{Grid: low.Grid}
			for _, v := range low.Vals {
				hi := v.Hi + n.upTo(min(80, api.MaxHeight-v.Hi))
				high.Vals = append(high.Vals, api.Span{Lo: v.Lo + n.upTo(hi-v.Lo), Hi: hi})
			}
			tilt, ray := n.upTo(12), n.upTo(4*s.Rose-1)
			less, _ := beam.Blocked(s, tilt, pt(8495000), low, ray)
			more, _ := beam.Blocked(s, tilt, pt(8495000), high, ray)
			for j := range s.Gates {
				if more[j].Lo < less[j].Lo || more[j].Hi < less[j].Hi {
					t.Fatalf("gate %d of %s: %v, and %v with higher ground", j, s.Name, less[j], more[j])
				}
			}
		}
	}
}
