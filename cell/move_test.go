package cell_test

import (
	"fmt"
	"math"
	"slices"
	"testing"

	"radome/api"
	"radome/cell"
)

// P8.3: what the definitions say, for all areas of many fields, whether they
// touch or not.
func TestAnyMoves(t *testing.T) {
	some, none := 0, 0
	for seed := range 200 {
		n := &noise{state: uint64(9000 + seed)}
		g := n.grid(7)
		maps := n.maps(g, 2)
		if seed%3 == 0 {
			maps = []api.Field{n.field(g), n.field(g)}
		}
		reach := n.of(0, 1, 2, 3, 8)
		for i := range areas(t, maps[0], level) {
			for j := range areas(t, maps[1], level) {
				got := moves(t, maps[0], maps[1], level, reach, i, j)
				wantSame(t, fmt.Sprintf("Moves of %v, %d to %d, reach %d", maps, i, j, reach), got, wantMoves(maps[0], maps[1], level, reach, i, j))
				if len(got) > 0 {
					some++
				} else {
					none++
				}
			}
		}
	}
	if some < 100 || none < 100 {
		t.Errorf("there are moves for %d pairs, and none for %d", some, none)
	}
}

// all returns all moves of a reach, without those that are not possible.
func all(reach int, isPossible func(x, y int) bool) []cell.Move {
	var l []cell.Move
	for y := -reach; y <= reach; y++ {
		for x := -reach; x <= reach; x++ {
			if isPossible(x, y) {
				l = append(l, cell.Move{X: x, Y: y})
			}
		}
	}
	return l
}

// P8.3: a pixel in the midst of a grid has one move; one that leaves the grid, or
// an area without pixels that are in, has more; and reaches of 0 and of 8.
func TestMoves(t *testing.T) {
	from := dots(17, 17, 8*17+8)
	for reach := range 9 {
		for _, d := range [][2]int{{0, 0}, {1, 0}, {0, -1}, {-8, 8}, {3, -2}, {reach, -reach}, {-reach, reach}} {
			to := dots(17, 17, (8+d[1])*17+8+d[0])
			want := all(reach, func(x, y int) bool { return x == d[0] && y == d[1] })
			wantSame(t, fmt.Sprint("a pixel by ", d, ", reach ", reach), moves(t, from, to, level, reach, 0, 0), want)
		}
	}
	open := picture("...", ".?.", "...")
	in := picture("...", ".#.", "...")
	wantSame(t, "both open", moves(t, open, open, level, 8, 0, 0), all(8, func(x, y int) bool { return true }))
	// What is in must not go elsewhere, but can leave the grid, where the other
	// one can have its pixels anywhere.
	stays := all(2, func(x, y int) bool { return x == 0 && y == 0 || abs(x) == 2 || abs(y) == 2 })
	wantSame(t, "in to open", moves(t, in, open, level, 2, 0, 0), stays)
	wantSame(t, "open to in", moves(t, open, in, level, 2, 0, 0), stays)
	wantSame(t, "in to in", moves(t, in, in, level, 2, 0, 0), stays)
	wantSame(t, "in to in, reach 0", moves(t, in, in, level, 0, 0, 0), []cell.Move{{}})
	wantSame(t, "one pixel", moves(t, picture("#"), picture("#"), level, 8, 0, 0), all(8, func(x, y int) bool { return true }))
	wantSame(t, "one column", moves(t, picture("#", "."), picture(".", "#"), level, 1, 0, 0), []cell.Move{
		{X: -1, Y: -1}, {X: 0, Y: -1}, {X: 1, Y: -1}, {X: -1, Y: 0}, {X: 1, Y: 0}, {X: -1, Y: 1}, {X: 0, Y: 1}, {X: 1, Y: 1},
	})
}

// P8.3: areas by their numbers, each with the pixels that are its own.
func TestMovesOfAreas(t *testing.T) {
	a, b := picture(
		"#....",
		".....",
		".....",
		"....#",
	), picture(
		".#...",
		".....",
		"#....",
		"...#.",
	)
	for _, x := range []struct {
		i, j int
		want []cell.Move
	}{
		{0, 0, []cell.Move{{X: 1, Y: 0}, {X: -1, Y: 1}}}, // moved, or both leave the grid
		{0, 1, []cell.Move{{X: 1, Y: -1}}},
		{0, 2, []cell.Move{{X: -1, Y: -1}, {X: 0, Y: -1}, {X: 1, Y: -1}}},
		{1, 0, []cell.Move{{X: -1, Y: 1}, {X: 0, Y: 1}, {X: 1, Y: 1}}},
		{1, 1, []cell.Move{{X: 1, Y: -1}, {X: 1, Y: 0}, {X: 1, Y: 1}}},
		{1, 2, []cell.Move{{X: 1, Y: -1}, {X: -1, Y: 0}}},
	} {
		got := moves(t, a, b, level, 1, x.i, x.j)
		wantSame(t, fmt.Sprint("Moves of ", x.i, " and ", x.j), got, x.want)
	}
}

// P8.3: fields of 64 by 64.
func TestWholeMoves(t *testing.T) {
	whole := plain(64, 64, span(5, 5))
	wantSame(t, "all", moves(t, whole, whole, level, 8, 0, 0), all(8, func(x, y int) bool { return true }))
	hole := copied(whole)
	hole.Vals[32*64+32] = span(0, 4)
	wantSame(t, "with a hole", moves(t, hole, hole, level, 8, 0, 0), []cell.Move{{}})
	wantSame(t, "to a hole", moves(t, whole, hole, level, 8, 0, 0), []cell.Move{})
	hole.Vals[32*64+32] = span(0, 5)
	wantSame(t, "with an open hole", moves(t, hole, whole, level, 8, 0, 0), all(8, func(x, y int) bool { return true }))
}

// P8.3: areas that do not exist: behind all other errors.
func TestMovesErrors(t *testing.T) {
	a, b := picture("#.#.#"), picture("?..##")
	for _, n := range extremes() {
		for other := range 3 {
			if isThere := n >= 0 && n < 3; !isThere {
				wantNone(t, a, b, n, other%2)
			}
			if isThere := n >= 0 && n < 2; !isThere {
				wantNone(t, a, b, other, n)
			}
		}
		if n < 0 || n > 2 {
			wantNone(t, a, b, n, n)
		}
	}
	wantNone(t, a, b, 3, 0)
	wantNone(t, a, b, 0, 2)
	wantNone(t, a, b, -1, 0)
	wantNone(t, a, b, 0, -1)
	_, e := cell.Moves(a, b, level, 1, 2, 1)
	wantErr(t, "the last areas", e, api.OK)
	wantNone(t, plain(5, 1, span(0, 4)), b, 0, 0)
	wantNone(t, b, plain(5, 1, span(0, 4)), 0, 0)
}

func wantNone(t *testing.T, a, b api.Field, i, j int) {
	t.Helper()
	if l, e := cell.Moves(a, b, level, 1, i, j); l != nil || e != api.ErrNone {
		t.Errorf("Moves of the areas %d and %d: %v %d", i, j, l, e)
	}
}

// P8.3: Hull of no moves, of one, and of those that are beyond every reach.
func TestHull(t *testing.T) {
	for _, x := range []struct {
		l    []cell.Move
		x, y api.Span
		e    api.Errno
	}{
		{nil, api.Span{}, api.Span{}, api.ErrEmpty},
		{[]cell.Move{}, api.Span{}, api.Span{}, api.ErrEmpty},
		{[]cell.Move{{}}, api.Span{}, api.Span{}, api.OK},
		{[]cell.Move{{X: 3, Y: -7}}, span(3, 3), span(-7, -7), api.OK},
		{[]cell.Move{{X: 3, Y: -7}, {X: 3, Y: -7}}, span(3, 3), span(-7, -7), api.OK},
		{[]cell.Move{{X: 3, Y: 4}, {X: 5, Y: 2}}, span(3, 5), span(2, 4), api.OK},
		{[]cell.Move{{X: 5, Y: 2}, {X: 3, Y: 4}, {X: 4, Y: 9}}, span(3, 5), span(2, 9), api.OK},
		{[]cell.Move{{X: -5, Y: -2}, {X: -3, Y: -4}}, span(-5, -3), span(-4, -2), api.OK},
		{[]cell.Move{{X: 9, Y: -9}, {X: -100, Y: 1000000}}, span(-100, 9), span(-9, 1000000), api.OK},
		{[]cell.Move{{X: math.MaxInt, Y: math.MinInt}, {X: math.MinInt, Y: 0}}, span(math.MinInt, math.MaxInt), span(math.MinInt, 0), api.OK},
	} {
		gotX, gotY, e := cell.Hull(x.l)
		if gotX != x.x || gotY != x.y || e != x.e {
			t.Errorf("Hull of %v: %v %v %d, want %v %v %d", x.l, gotX, gotY, e, x.x, x.y, x.e)
		}
	}
}

// P8.9: all that is in has moved by one move: what was in, and what became of
// it, have areas of the same event; and the move is possible for events Kept.
func TestMovedTruth(t *testing.T) {
	kept, pixels := 0, 0
	for seed := range 600 {
		n := &noise{state: uint64(10000 + seed)}
		before := n.maps(n.grid(12), 3)[2]
		reach := n.of(0, 1, 1, 2, 3, 8)
		m := cell.Move{X: n.upTo(2*reach) - reach, Y: n.upTo(2*reach) - reach}
		was := n.truth(before)
		is := n.moved(before.Grid, was, m)
		earlier, later := n.around(before.Grid, was), n.around(before.Grid, is)
		events := match(t, earlier, later, level, reach)
		from, to := areas(t, earlier, level), areas(t, later, level)
		for p := range was {
			q, isOn := movedPixel(before.Grid, p, m)
			if was[p] < level || !isOn {
				continue
			}
			pixels++
			i, j := areaOf(from, p), areaOf(to, q)
			if !slices.ContainsFunc(events, func(e cell.Event) bool { return slices.Contains(e.From, i) && slices.Contains(e.To, j) }) {
				t.Fatalf("no event has the areas %d and %d, of the pixels %d and %d: %v", i, j, p, q, events)
			}
		}
		for _, e := range events {
			if e.Kind != cell.Kept {
				continue
			}
			kept++
			l := moves(t, earlier, later, level, reach, e.From[0], e.To[0])
			if !slices.Contains(l, m) {
				t.Fatalf("%v is not possible for %v: %v", m, e, l)
			}
			x, y, e := cell.Hull(l)
			if e != api.OK || m.X < x.Lo || m.X > x.Hi || m.Y < y.Lo || m.Y > y.Hi {
				t.Fatalf("%v is not in the hull %v %v", m, x, y)
			}
		}
	}
	if kept < 200 || pixels < 1000 {
		t.Errorf("only %d events, and %d pixels", kept, pixels)
	}
}

// areaOf returns the number of the area with a pixel.
func areaOf(l []cell.Area, pixel int) int {
	return slices.IndexFunc(l, func(a cell.Area) bool { return slices.Contains(a.Pixels, pixel) })
}

// movedPixel returns the number of a pixel that is moved, and whether it is on
// the grid.
func movedPixel(g api.Grid, p int, m cell.Move) (int, bool) {
	x, y := p%g.Wide+m.X, p/g.Wide+m.Y
	return y*g.Wide + x, x >= 0 && x < g.Wide && y >= 0 && y < g.High
}

// moved returns values behind a move: what comes from beyond the grid can be
// anything.
func (n *noise) moved(g api.Grid, was []int, m cell.Move) []int {
	is := make([]int, len(was))
	for p := range is {
		origin, isOn := movedPixel(g, p, cell.Move{X: -m.X, Y: -m.Y})
		if isOn && was[origin] >= level || !isOn && n.upTo(3) == 0 {
			is[p] = 5 + n.upTo(4)
		} else {
			is[p] = n.upTo(4)
		}
	}
	return is
}

// around returns a field whose spans have some values.
func (n *noise) around(g api.Grid, truth []int) api.Field {
	f := api.Field{Grid: g, Vals: make([]api.Span, len(truth))}
	open := n.upTo(4)
	for p, v := range truth {
		f.Vals[p] = span(v, v)
		if n.upTo(9) < open {
			f.Vals[p] = span(n.upTo(v), v+n.upTo(3))
		}
	}
	return f
}
