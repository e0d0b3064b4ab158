package cell_test

import (
	"fmt"
	"slices"
	"testing"

	"radome/api"
	"radome/cell"
)

// dots returns a field with pixels that are in, and no other ones.
func dots(wide, high int, pixels ...int) api.Field {
	f := plain(wide, high, span(0, 4))
	for _, p := range pixels {
		f.Vals[p] = span(5, 5)
	}
	return f
}

// P8.3: what the definitions say, on many fields.
func TestAnyMatch(t *testing.T) {
	kinds := map[int]int{}
	for seed := range 400 {
		n := &noise{state: uint64(6000 + seed)}
		g := n.grid(9)
		maps := n.maps(g, 2)
		if seed%2 == 0 {
			maps = []api.Field{n.field(g), n.field(g)}
		}
		for _, reach := range []int{0, 1, 2, n.upTo(8)} {
			got := match(t, maps[0], maps[1], level, reach)
			wantSame(t, fmt.Sprintf("Match of %v with the reach %d", maps, reach), got, wantEvents(maps[0], maps[1], level, reach))
			for _, e := range got {
				kinds[e.Kind]++
			}
		}
	}
	for kind := cell.Birth; kind <= cell.Knot; kind++ {
		if kinds[kind] < 50 {
			t.Errorf("only %d events of the kind %d", kinds[kind], kind)
		}
	}
}

// P8.3: each kind of event, in their order.
func TestKinds(t *testing.T) {
	event := func(kind int, from, to []int) cell.Event { return cell.Event{Kind: kind, From: from, To: to} }
	for _, x := range []struct {
		a, b  []string
		reach int
		want  []cell.Event
	}{
		{[]string{"..."}, []string{"..."}, 8, nil},
		{[]string{"..."}, []string{"#.?"}, 8, []cell.Event{event(cell.Birth, nil, []int{0}), event(cell.Birth, nil, []int{1})}},
		{[]string{"#.?"}, []string{"..."}, 8, []cell.Event{event(cell.End, []int{0}, nil), event(cell.End, []int{1}, nil)}},
		{[]string{"#.#"}, []string{"?.?"}, 0, []cell.Event{event(cell.Kept, []int{0}, []int{0}), event(cell.Kept, []int{1}, []int{1})}},
		{[]string{"###"}, []string{"#.#"}, 0, []cell.Event{event(cell.Split, []int{0}, []int{0, 1})}},
		{[]string{"#####"}, []string{"#.#.#"}, 0, []cell.Event{event(cell.Split, []int{0}, []int{0, 1, 2})}},
		{[]string{"#.#"}, []string{"???"}, 0, []cell.Event{event(cell.Join, []int{0, 1}, []int{0})}},
		{[]string{"#.#.#"}, []string{"#####"}, 0, []cell.Event{event(cell.Join, []int{0, 1, 2}, []int{0})}},
		{[]string{"##.##"}, []string{"#.###"}, 0, []cell.Event{event(cell.Kept, []int{0}, []int{0}), event(cell.Kept, []int{1}, []int{1})}},
		{[]string{"###.#"}, []string{"#.###"}, 0, []cell.Event{event(cell.Knot, []int{0, 1}, []int{0, 1})}},
		{[]string{"#.#"}, []string{"#.#"}, 2, []cell.Event{event(cell.Knot, []int{0, 1}, []int{0, 1})}},
		{[]string{"#.#.#.#"}, []string{"#.#.#.."}, 2, []cell.Event{event(cell.Knot, []int{0, 1, 2, 3}, []int{0, 1, 2})}},
		{[]string{"#...#..#"}, []string{"##.#.##."}, 1, []cell.Event{
			event(cell.Kept, []int{0}, []int{0}), event(cell.Knot, []int{1, 2}, []int{1, 2}),
		}},
		{[]string{"#....#....#...."}, []string{"..#..#..#....#."}, 1, []cell.Event{ // births behind all others
			event(cell.End, []int{0}, nil), event(cell.Kept, []int{1}, []int{1}), event(cell.End, []int{2}, nil),
			event(cell.Birth, nil, []int{0}), event(cell.Birth, nil, []int{2}), event(cell.Birth, nil, []int{3}),
		}},
		{[]string{ // by their first From, though the first To are the other way round
			"...#",
			"#...",
		}, []string{
			"#...",
			"...#",
		}, 1, []cell.Event{event(cell.Kept, []int{0}, []int{1}), event(cell.Kept, []int{1}, []int{0})}},
		{[]string{ // events within each other
			"#.#.#",
			".....",
			"#####",
		}, []string{
			"##.##",
			".....",
			".....",
		}, 0, []cell.Event{event(cell.Kept, []int{0}, []int{0}), event(cell.End, []int{1}, nil), event(cell.Kept, []int{2}, []int{1}), event(cell.End, []int{3}, nil)}},
	} {
		a, b := picture(x.a...), picture(x.b...)
		wantSame(t, fmt.Sprintf("Match of %v and %v with the reach %d", x.a, x.b, x.reach), match(t, a, b, level, x.reach), x.want)
	}
}

// P8.3: areas that touch only at the corner of a reach, at each reach.
func TestCorners(t *testing.T) {
	for reach := range 9 {
		for _, side := range [][2]int{{1, 1}, {1, -1}, {-1, 1}, {-1, -1}} {
			for more := range 2 {
				for _, d := range [][2]int{{reach + more, reach}, {reach, reach + more}, {reach + more, reach + more}, {reach + more, 0}, {0, reach + more}} {
					x, y := 10+side[0]*d[0], 10+side[1]*d[1]
					want := cell.Kept
					if more == 1 {
						want = cell.End
					}
					l := match(t, dots(20, 20, 210), dots(20, 20, y*20+x), level, reach)
					wantSame(t, fmt.Sprint("the reach ", reach, " and the pixel ", x, ", ", y), l[0].Kind, want)
					wantSame(t, "the number of events", len(l), 1+more)
				}
			}
		}
	}
	// Pixels whose numbers are close, at the other side of the grid.
	wantSame(t, "around the edge", len(match(t, dots(20, 20, 39), dots(20, 20, 40), level, 8)), 2)
	// The ends of long areas, far from their middles.
	a, b := picture("#####......"), picture("......#####")
	wantSame(t, "ends at 1", len(match(t, a, b, level, 1)), 2)
	wantSame(t, "ends at 2", len(match(t, a, b, level, 2)), 1)
}

// P8.3: fields of 64 by 64: each pixel an area of its own, at all reaches.
func TestWholeMatch(t *testing.T) {
	white, black := board(64, 64, 0), board(64, 64, 1)
	l := match(t, white, white, level, 0)
	for i, e := range l {
		wantSame(t, "an event", e, cell.Event{Kind: cell.Kept, From: []int{i}, To: []int{i}})
	}
	wantSame(t, "the number of events", len(l), 2048)
	l = match(t, white, black, level, 0)
	for i, e := range l {
		want := cell.Event{Kind: cell.End, From: []int{i}}
		if i >= 2048 {
			want = cell.Event{Kind: cell.Birth, To: []int{i - 2048}}
		}
		wantSame(t, "an event", e, want)
	}
	wantSame(t, "the number of events", len(l), 4096)
	all := make([]int, 2048)
	for i := range all {
		all[i] = i
	}
	for _, reach := range []int{1, 8} {
		want := []cell.Event{{Kind: cell.Knot, From: all, To: all}}
		wantSame(t, "one knot", match(t, white, black, level, reach), want)
		wantSame(t, "another knot", match(t, black, black, level, max(reach, 2)), want)
	}
	wantSame(t, "one split", match(t, plain(64, 64, span(5, 5)), black, level, 0), []cell.Event{{Kind: cell.Split, From: []int{0}, To: all}})
	wantSame(t, "one join", match(t, white, plain(64, 64, span(0, 5)), level, 0), []cell.Event{{Kind: cell.Join, From: all, To: []int{0}}})
}

// pairCalls are calls of Match and Moves, each of which reports whether it
// returned nothing, and its error.
func pairCalls(a, b api.Field, level, reach, i, j int) map[string]func() (bool, api.Errno) {
	return map[string]func() (bool, api.Errno){
		"Match": func() (bool, api.Errno) {
			l, e := cell.Match(a, b, level, reach)
			return len(l) == 0, e
		},
		"Moves": func() (bool, api.Errno) {
			l, e := cell.Moves(a, b, level, reach, i, j)
			return len(l) == 0, e
		},
	}
}

// P8.3: which error comes first.
func TestPairErrors(t *testing.T) {
	good := plain(3, 2, span(1, 9))
	for what, bad := range badFields() {
		wantError(t, what+" first", pairCalls(bad.f, good, 0, -1, -1, -1), bad.e)
		wantError(t, what+" second", pairCalls(good, bad.f, 0, -1, -1, -1), bad.e)
		wantError(t, what+" second, of another grid", pairCalls(plain(4, 4, span(1, 9)), bad.f, 0, -1, -1, -1), bad.e)
		for other, worse := range badFields() {
			wantError(t, what+" and "+other, pairCalls(bad.f, worse.f, 5, 1, 0, 0), bad.e)
		}
	}
	for what, change := range map[string]func(g *api.Grid){
		"east": func(g *api.Grid) { g.X++ }, "north": func(g *api.Grid) { g.Y-- }, "size": func(g *api.Grid) { g.Size++ },
		"turned": func(g *api.Grid) { g.Wide, g.High = 2, 3 }, "one row": func(g *api.Grid) { g.Wide, g.High = 6, 1 },
	} {
		other := copied(good)
		change(&other.Grid)
		wantError(t, what, pairCalls(good, other, 0, -1, -1, -1), api.ErrShape)
		wantError(t, what, pairCalls(other, good, 5, 1, 0, 0), api.ErrShape)
	}
	for _, n := range []int{-1, 9, 1 << 40} {
		wantError(t, "no reach", pairCalls(good, good, 5, n, -1, -1), api.ErrRange)
		wantError(t, "no reach", pairCalls(good, good, 5, n, 0, 0), api.ErrRange)
	}
	for _, n := range []int{0, -1, maxPower + 1} {
		wantError(t, "no level", pairCalls(good, good, n, 1, -1, -1), api.ErrRange)
	}
	wantRange(t, "the level of Match", 1, maxPower, func(n int) api.Errno { _, e := cell.Match(good, good, n, 1); return e })
	wantRange(t, "the reach of Match", 0, 8, func(n int) api.Errno { _, e := cell.Match(good, good, 5, n); return e })
	top := plain(3, 2, span(1, maxPower))
	wantRange(t, "the level of Moves", 1, maxPower, func(n int) api.Errno { _, e := cell.Moves(top, top, n, 1, 0, 0); return e })
	wantRange(t, "the reach of Moves", 0, 8, func(n int) api.Errno { _, e := cell.Moves(good, good, 5, n, 0, 0); return e })
}

// turned returns an event the other way round.
func turned(e cell.Event) cell.Event {
	kinds := map[int]int{cell.Birth: cell.End, cell.End: cell.Birth, cell.Split: cell.Join, cell.Join: cell.Split, cell.Kept: cell.Kept, cell.Knot: cell.Knot}
	return cell.Event{Kind: kinds[e.Kind], From: e.To, To: e.From}
}

// P8.10: with both maps exchanged, the events are the same, the other way round,
// and the moves the opposite ones.
func TestBack(t *testing.T) {
	some := 0
	for seed := range 200 {
		n := &noise{state: uint64(7000 + seed)}
		maps := n.maps(n.grid(10), 2)
		reach := n.upTo(3)
		forth, back := match(t, maps[0], maps[1], level, reach), match(t, maps[1], maps[0], level, reach)
		for _, e := range forth {
			if !slices.ContainsFunc(back, func(x cell.Event) bool { return fmt.Sprint(x) == fmt.Sprint(turned(e)) }) {
				t.Fatalf("%v is not turned in %v", e, back)
			}
		}
		wantSame(t, "the number of events", len(back), len(forth))
		for i := range areas(t, maps[0], level) {
			for j := range areas(t, maps[1], level) {
				want := moves(t, maps[0], maps[1], level, reach, i, j)
				got := moves(t, maps[1], maps[0], level, reach, j, i)
				slices.Reverse(want)
				for k := range want {
					want[k] = cell.Move{X: -want[k].X, Y: -want[k].Y}
				}
				wantSame(t, fmt.Sprintf("Moves back of %v", maps), got, want)
				some += len(want)
			}
		}
	}
	if some < 1000 {
		t.Errorf("only %d moves", some)
	}
}

// P8.10: with a greater reach each event lies within one.
func TestGreaterReach(t *testing.T) {
	less := 0
	for seed := range 200 {
		n := &noise{state: uint64(8000 + seed)}
		maps := n.maps(n.grid(20), 2)
		before := match(t, maps[0], maps[1], level, 0)
		for reach := 1; reach <= 8; reach++ {
			after := match(t, maps[0], maps[1], level, reach)
			for _, e := range before {
				if !slices.ContainsFunc(after, func(x cell.Event) bool { return isWithin(e.From, x.From) && isWithin(e.To, x.To) }) {
					t.Fatalf("%v does not lie within one of %v", e, after)
				}
			}
			less += len(before) - len(after)
			before = after
		}
	}
	if less < 100 {
		t.Errorf("only %d events less", less)
	}
}
