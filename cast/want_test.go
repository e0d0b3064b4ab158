package cast_test

import (
	"slices"

	"radome/api"
	"radome/cast"
)

// place is a pixel, or what lies beside the grid, by its column and its row.
type place struct{ x, y int }

func placeOf(g api.Grid, pixel int) place { return place{pixel % g.Wide, pixel / g.Wide} }

func set(l []int) map[int]bool {
	s := map[int]bool{}
	for _, n := range l {
		s[n] = true
	}
	return s
}

func places(g api.Grid, l []int) map[place]bool {
	s := map[place]bool{}
	for _, pixel := range l {
		s[placeOf(g, pixel)] = true
	}
	return s
}

// wantSources returns from which columns, or rows, something can have come into
// the one with the number n, by the chapter's definition, tried for all that are
// not much too far away.
func wantSources(n int, rush api.Span, grow, lead int) []int {
	var l []int
	far := lead*(maxRush+maxGrow)/1000000 + 3
	for from := n - far; from <= n+far; from++ {
		d := 1000000 * (n - from)
		if d > (rush.Lo-grow)*lead-1000000 && d < (rush.Hi+grow)*lead+1000000 {
			l = append(l, from)
		}
	}
	return l
}

// wantState returns the state of a pixel for a cloud at a lead, by the chapter's
// definition.
func wantState(g api.Grid, c cast.Cloud, pixel, lead int) int {
	at, sure, may := placeOf(g, pixel), places(g, c.Sure), places(g, c.May)
	isSure, isMaybe := true, false
	for _, x := range wantSources(at.x, c.Flow.X, c.Grow, lead) {
		for _, y := range wantSources(at.y, c.Flow.Y, c.Grow, lead) {
			isSure = isSure && sure[place{x, y}]
			isMaybe = isMaybe || may[place{x, y}]
		}
	}
	switch {
	case isSure:
		return 2
	case isMaybe:
		return 1
	}
	return 0
}

// wantStates returns the states of all pixels for several clouds.
func wantStates(g api.Grid, l []cast.Cloud, lead int) []int {
	states := make([]int, g.Wide*g.High)
	for pixel := range states {
		for _, c := range l {
			states[pixel] = max(states[pixel], wantState(g, c, pixel, lead))
		}
	}
	return states
}

// wantTimes returns the times of a pixel, by the chapter's definition.
func wantTimes(g api.Grid, c cast.Cloud, pixel, lead int) cast.Times {
	var met, sure []int
	for second := 0; second <= lead; second++ {
		s := wantState(g, c, pixel, second)
		if s != 0 {
			met = append(met, second)
		}
		if s == 2 {
			sure = append(sure, second)
		}
	}
	x := cast.Times{First: -1, Sure: -1, Last: -1, Least: len(sure), Most: len(met)}
	if len(met) > 0 {
		x.First, x.Last = met[0], met[len(met)-1]
	}
	if len(sure) > 0 {
		x.Sure = sure[0]
	}
	return x
}

// course is what a cloud does in truth: the pixels that it covers at first, how
// fast it moves, and how far its edges have moved outwards (or inwards, below 0)
// at each second.
type course struct {
	first map[place]bool
	x, y  int
	out   []int
}

// course returns one that a cloud can take, often along the ends of its bounds.
func (n *noise) course(g api.Grid, c cast.Cloud, lead int) course {
	r := course{first: places(g, c.Sure)}
	chance := n.upTo(10)
	for _, pixel := range c.May {
		if n.upTo(9) < chance {
			r.first[placeOf(g, pixel)] = true
		}
	}
	r.x = n.of(c.Flow.X.Lo, c.Flow.X.Hi, n.from(c.Flow.X.Lo, c.Flow.X.Hi))
	r.y = n.of(c.Flow.Y.Lo, c.Flow.Y.Hi, n.from(c.Flow.Y.Lo, c.Flow.Y.Hi))
	way := n.of(-1, 1, 0)
	for second := 0; second <= lead; second++ {
		most := c.Grow * second
		r.out = append(r.out, n.of(most*way, most*way, n.from(-most, most)))
	}
	return r
}

// box is a rectangle of distances.
type box struct{ x, y api.Span }

// overlaps reports whether two boxes have more in common than edges.
func (b box) overlaps(other box) bool {
	return b.x.Lo < other.x.Hi && other.x.Lo < b.x.Hi && b.y.Lo < other.y.Hi && other.y.Lo < b.y.Hi
}

// covered reports whether boxes cover all of another one: each of the pieces into
// which their edges divide it.
func covered(whole box, l []box) bool {
	xs, ys := []int{whole.x.Lo, whole.x.Hi}, []int{whole.y.Lo, whole.y.Hi}
	for _, b := range l {
		xs = append(xs, max(b.x.Lo, whole.x.Lo), min(b.x.Hi, whole.x.Hi))
		ys = append(ys, max(b.y.Lo, whole.y.Lo), min(b.y.Hi, whole.y.Hi))
	}
	slices.Sort(xs)
	slices.Sort(ys)
	xs, ys = slices.Compact(xs), slices.Compact(ys)
	for i := range xs[1:] {
		for j := range ys[1:] {
			piece := box{span(xs[i], xs[i+1]), span(ys[j], ys[j+1])}
			if !slices.ContainsFunc(l, piece.overlaps) {
				return false
			}
		}
	}
	return true
}

// truth returns whether a pixel is covered in part, and as a whole, at a second.
// Outwards, all places that are covered at first become larger; inwards, all
// that are not do.
func (r course) truth(at place, second int) (part, whole bool) {
	by := r.out[second]
	isOutwards := by >= 0
	if !isOutwards {
		by = -by
	}
	const side = 1000000
	square := box{span(at.x*side, (at.x+1)*side), span(at.y*side, (at.y+1)*side)}
	far := by/side + 2
	x0, y0 := (at.x*side-r.x*second)/side, (at.y*side-r.y*second)/side
	var l []box
	for x := x0 - far; x <= x0+far; x++ {
		for y := y0 - far; y <= y0+far; y++ {
			b := box{
				span(x*side+r.x*second-by, (x+1)*side+r.x*second+by),
				span(y*side+r.y*second-by, (y+1)*side+r.y*second+by),
			}
			if r.first[place{x, y}] == isOutwards && b.overlaps(square) {
				l = append(l, b)
			}
		}
	}
	if isOutwards {
		return len(l) > 0, covered(square, l)
	}
	return !covered(square, l), len(l) == 0
}
