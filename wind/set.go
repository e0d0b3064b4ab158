package wind

import "radome/api"

// edge is a part of a border, from a corner on, up to that of the next edge.
type edge struct {
	from corner
	on   border
}

// winds is a set without gaps: what its edges enclose, counterclockwise. If it
// is a part of a straight line, it has two edges, and perhaps others, which are
// single winds; if it is a single wind, one or more; if it is empty, none.
type winds struct{ edges endless[edge] }

// allWinds returns the set of all winds.
func allWinds() winds {
	east, north := border{1, 0, MaxWind}, border{0, 1, MaxWind}
	west, south := border{-1, 0, MaxWind}, border{0, -1, MaxWind}
	borders := endless[border]{[]border{south, east, north, west}}
	all := winds{}
	for before, on := range borders.pairs() {
		all.edges = all.edges.with(edge{from: before.meeting(on), on: on})
	}
	return all
}

// agreeing returns the set of all winds that agree with some sights.
func agreeing(l []Sight) winds {
	left := allWinds()
	for _, x := range l {
		left = left.agreeing(x)
	}
	return left
}

// agreeing returns the winds of a set that agree with a sight.
func (s winds) agreeing(x Sight) winds {
	for _, b := range bordersOf(x) {
		if !s.has(b) && s.isCrossed(b) {
			s = s.within(b)
		}
	}
	return s
}

func (s winds) isEmpty() bool { return len(s.edges.once) == 0 }

// has reports whether a border is one of a set already.
func (s winds) has(b border) bool {
	for _, e := range s.edges.once {
		if e.on == b {
			return true
		}
	}
	return false
}

// isCrossed reports whether a wind of a set is beyond a border.
func (s winds) isCrossed(b border) bool {
	for _, e := range s.edges.once {
		if b.excess(e.from) > 0 {
			return true
		}
	}
	return false
}

// isBeyond reports whether all winds of a set are beyond a border.
func (s winds) isBeyond(b border) bool {
	for _, e := range s.edges.once {
		if b.excess(e.from) <= 0 {
			return false
		}
	}
	return true
}

// isMissed reports whether no wind of a set agrees with a sight.
func (s winds) isMissed(x Sight) bool {
	borders := bordersOf(x)
	return s.isBeyond(borders[0]) || s.isBeyond(borders[1])
}

// within returns the winds of a set that are not beyond a border.
func (s winds) within(b border) winds {
	left := winds{}
	left.edges.once = make([]edge, 0, len(s.edges.once)+1) // as long as it can be
	for e, next := range s.edges.pairs() {
		here, there := b.excess(e.from), b.excess(next.from)
		switch {
		case here < 0 && there > 0:
			left.edges = left.edges.with(e).with(edge{from: e.on.meeting(b), on: b})
		case here == 0 && there > 0:
			left.edges = left.edges.with(edge{from: e.from, on: b})
		case here <= 0:
			left.edges = left.edges.with(e)
		case there < 0:
			left.edges = left.edges.with(edge{from: e.on.meeting(b), on: e.on})
		}
	}
	return left
}

// reach returns how fast the winds of a set go along a direction; the set is
// not empty.
func (s winds) reach(x, y, length int) api.Span {
	var reach api.Span
	for i, e := range s.edges.once {
		lo, hi := e.from.along(x, y, length)
		if i == 0 {
			reach = api.Span{Lo: lo, Hi: hi}
		}
		reach = api.Span{Lo: min(reach.Lo, lo), Hi: max(reach.Hi, hi)}
	}
	return reach
}
