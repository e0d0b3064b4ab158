package cell_test

import (
	"slices"

	"radome/api"
	"radome/cell"
)

// The functions named want.. follow the definitions of the chapter word by
// word, so that they share nothing with the package.

func wantIn(f api.Field, level int) []bool {
	l := make([]bool, len(f.Vals))
	for p, s := range f.Vals {
		l[p] = s.Lo >= level
	}
	return l
}

func wantMay(f api.Field, level int) []bool {
	l := make([]bool, len(f.Vals))
	for p, s := range f.Vals {
		l[p] = s.Hi >= level
	}
	return l
}

func abs(n int) int { return max(n, -n) }

// areNeighbors reports whether two pixels have a side in common.
func areNeighbors(g api.Grid, p, q int) bool {
	return abs(p%g.Wide-q%g.Wide)+abs(p/g.Wide-q/g.Wide) == 1
}

// complete makes of a relation that says which ones follow each other one that says
// between which ones there is a way.
func complete(ways [][]bool) {
	for k := range ways {
		for i := range ways {
			if !ways[i][k] {
				continue
			}
			for j := range ways {
				ways[i][j] = ways[i][j] || ways[k][j]
			}
		}
	}
}

func square(n int) [][]bool {
	l := make([][]bool, n)
	for i := range l {
		l[i] = make([]bool, n)
	}
	return l
}

// wantWays reports for each two pixels whether a way of neighbors, all of which
// are in a set, leads from one to the other.
func wantWays(g api.Grid, set []bool) [][]bool {
	ways := square(len(set))
	for p := range set {
		for q := range set {
			ways[p][q] = set[p] && set[q] && (p == q || areNeighbors(g, p, q))
		}
	}
	complete(ways)
	return ways
}

func wantParts(g api.Grid, set []bool) [][]int {
	var l [][]int
	for p, ways := range wantWays(g, set) {
		if !set[p] || slices.Index(ways, true) < p {
			continue
		}
		var part []int
		for q, leads := range ways {
			if leads {
				part = append(part, q)
			}
		}
		l = append(l, part)
	}
	return l
}

func wantAreas(f api.Field, level int) []cell.Area {
	var l []cell.Area
	for _, pixels := range wantParts(f.Grid, wantMay(f, level)) {
		a := cell.Area{Pixels: pixels}
		core := make([]bool, len(f.Vals))
		var columns, rows []int
		for _, p := range pixels {
			columns = append(columns, p%f.Grid.Wide)
			rows = append(rows, p/f.Grid.Wide)
			a.Sum.Hi += f.Vals[p].Hi
			if f.Vals[p].Lo >= level {
				core[p] = true
				a.Sum.Lo += f.Vals[p].Lo
			}
		}
		a.Kernels = wantParts(f.Grid, core)
		a.X = span(slices.Min(columns), slices.Max(columns))
		a.Y = span(slices.Min(rows), slices.Max(rows))
		l = append(l, a)
	}
	return l
}

// wantGaps returns the gaps between a pixel and all others: ways are lengthened
// as long as that makes a gap less.
func wantGaps(f api.Field, level, p int) []int {
	const far = 1 << 20
	in, may := wantIn(f, level), wantMay(f, level)
	cost := func(p int) int {
		switch {
		case in[p]:
			return 0
		case may[p]:
			return 1
		}
		return far
	}
	l := make([]int, len(f.Vals))
	for q := range l {
		l[q] = far
	}
	l[p] = cost(p)
	for isLess := true; isLess; {
		isLess = false
		for q := range l {
			for r := range l {
				if areNeighbors(f.Grid, q, r) && l[q]+cost(r) < l[r] {
					l[r], isLess = l[q]+cost(r), true
				}
			}
		}
	}
	for q := range l {
		if l[q] >= far {
			l[q] = -1
		}
	}
	return l
}

func wantTree(f api.Field, levels []int) [][]int {
	l := make([][]int, len(levels))
	for i := range levels {
		for _, a := range wantAreas(f, levels[i]) {
			parent := -1
			if i > 0 {
				parent = slices.IndexFunc(wantAreas(f, levels[i-1]), func(b cell.Area) bool { return isWithin(a.Pixels, b.Pixels) })
			}
			l[i] = append(l[i], parent)
		}
	}
	return l
}

// isWithin reports whether all elements of a list are some of another one.
func isWithin(l, outer []int) bool {
	for _, n := range l {
		if !slices.Contains(outer, n) {
			return false
		}
	}
	return true
}

func wantTouch(g api.Grid, a, b cell.Area, reach int) bool {
	for _, p := range a.Pixels {
		for _, q := range b.Pixels {
			if abs(p%g.Wide-q%g.Wide) <= reach && abs(p/g.Wide-q/g.Wide) <= reach {
				return true
			}
		}
	}
	return false
}

func wantEvents(a, b api.Field, level, reach int) []cell.Event {
	from, to := wantAreas(a, level), wantAreas(b, level)
	ways := square(len(from) + len(to))
	for i := range ways {
		ways[i][i] = true
	}
	for i, x := range from {
		for j, y := range to {
			touch := wantTouch(a.Grid, x, y, reach)
			ways[i][len(from)+j], ways[len(from)+j][i] = touch, touch
		}
	}
	complete(ways)
	var l []cell.Event
	for n := range ways {
		if slices.Index(ways[n], true) < n {
			continue
		}
		var e cell.Event
		for m, leads := range ways[n] {
			switch {
			case leads && m < len(from):
				e.From = append(e.From, m)
			case leads:
				e.To = append(e.To, m-len(from))
			}
		}
		e.Kind = wantKind(len(e.From), len(e.To))
		l = append(l, e)
	}
	return l
}

func wantKind(from, to int) int {
	switch {
	case from == 0 && to == 1:
		return 2
	case from == 1 && to == 0:
		return 3
	case from == 1 && to == 1:
		return 4
	case from == 1 && to >= 2:
		return 5
	case from >= 2 && to == 1:
		return 6
	case from >= 2 && to >= 2:
		return 7
	}
	return 0
}

// wantPossible reports whether a move is possible.
func wantPossible(a, b api.Field, level, i, j int, m cell.Move) bool {
	from, to := wantAreas(a, level)[i], wantAreas(b, level)[j]
	return wantTaken(a.Grid, from, to, m.X, m.Y) && wantTaken(a.Grid, to, from, -m.X, -m.Y)
}

// wantTaken reports whether all pixels of an area that are in, moved, are pixels
// of another one, or not in the grid.
func wantTaken(g api.Grid, a, b cell.Area, x, y int) bool {
	for _, kernel := range a.Kernels {
		for _, p := range kernel {
			column, row := p%g.Wide+x, p/g.Wide+y
			isOn := column >= 0 && column < g.Wide && row >= 0 && row < g.High
			if isOn && !slices.Contains(b.Pixels, row*g.Wide+column) {
				return false
			}
		}
	}
	return true
}

func wantMoves(a, b api.Field, level, reach, i, j int) []cell.Move {
	var l []cell.Move
	for y := -reach; y <= reach; y++ {
		for x := -reach; x <= reach; x++ {
			if m := (cell.Move{X: x, Y: y}); wantPossible(a, b, level, i, j, m) {
				l = append(l, m)
			}
		}
	}
	return l
}

// record is what a book is told.
type record struct {
	level int
	reach int
	maps  []api.Field
}

// events returns those between a map and the next one.
func (r record) events(number int) []cell.Event {
	return wantEvents(r.maps[number], r.maps[number+1], r.level, r.reach)
}

// into returns the event between a map and the one before it in which an area of
// the map is, and outOf that between it and the next one.
func (r record) into(number, area int) cell.Event {
	for _, e := range r.events(number - 1) {
		if slices.Contains(e.To, area) {
			return e
		}
	}
	return cell.Event{}
}

func (r record) outOf(number, area int) cell.Event {
	for _, e := range r.events(number) {
		if slices.Contains(e.From, area) {
			return e
		}
	}
	return cell.Event{}
}

// Tracks follows each area that does not continue a track, as long as it is
// Kept; then it looks which tracks meet in the same events.
func (r record) Tracks() []cell.Track {
	var l []cell.Track
	begins, ends := map[[2]int]cell.Event{}, map[[2]int]cell.Event{}
	for number, f := range r.maps {
		for area := range wantAreas(f, r.level) {
			t := cell.Track{Begin: cell.First, From: number}
			if number > 0 {
				e := r.into(number, area)
				if e.Kind == cell.Kept {
					continue
				}
				t.Begin = e.Kind
				begins[[2]int{number, area}] = e
			}
			for at := number; ; at++ {
				t.Areas = append(t.Areas, area)
				if at == len(r.maps)-1 {
					break
				}
				e := r.outOf(at, area)
				if e.Kind != cell.Kept {
					t.End = e.Kind
					ends[[2]int{at, area}] = e
					break
				}
				area = e.To[0]
			}
			l = append(l, t)
		}
	}
	for i := range l {
		for j := range l {
			last := l[i].From + len(l[i].Areas) - 1
			out, isOut := ends[[2]int{last, l[i].Areas[last-l[i].From]}]
			in, isIn := begins[[2]int{l[j].From, l[j].Areas[0]}]
			if isOut && isIn && last+1 == l[j].From && slices.Equal(out.From, in.From) && slices.Equal(out.To, in.To) {
				l[i].Children = append(l[i].Children, j)
				l[j].Parents = append(l[j].Parents, i)
			}
		}
	}
	return l
}

// Of returns the track of an area, or -1.
func (r record) Of(tracks []cell.Track, number, area int) int {
	return slices.IndexFunc(tracks, func(t cell.Track) bool {
		at := number - t.From
		return at >= 0 && at < len(t.Areas) && t.Areas[at] == area
	})
}

// wantLine returns all tracks to which some step leads from one, however often
// it is done.
func wantLine(tracks []cell.Track, number int, step func(t cell.Track) []int) []int {
	ways := square(len(tracks))
	for i, t := range tracks {
		for _, j := range step(t) {
			ways[i][j] = true
		}
	}
	complete(ways)
	var l []int
	for j, leads := range ways[number] {
		if leads {
			l = append(l, j)
		}
	}
	return l
}

// Steps returns the possible moves of a track.
func (r record) Steps(t cell.Track) [][]cell.Move {
	var l [][]cell.Move
	for i := range len(t.Areas) - 1 {
		earlier, later := r.maps[t.From+i], r.maps[t.From+i+1]
		l = append(l, wantMoves(earlier, later, r.level, r.reach, t.Areas[i], t.Areas[i+1]))
	}
	return l
}

// Tally counts anew.
func (r record) Tally() cell.Tally {
	y := cell.Tally{Maps: len(r.maps), Tracks: len(r.Tracks())}
	counts := map[int]int{}
	for number, f := range r.maps {
		y.Areas += len(wantAreas(f, r.level))
		if number > 0 {
			for _, e := range r.events(number - 1) {
				counts[e.Kind]++
			}
		}
	}
	y.Births, y.Ends, y.Kept = counts[2], counts[3], counts[4]
	y.Splits, y.Joins, y.Knots = counts[5], counts[6], counts[7]
	return y
}
