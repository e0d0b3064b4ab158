package fold

import (
	"cmp"
	"slices"
	"sort"

	"radome/api"
)

// set is a set of speeds: the Lo of each of its spans is above the Hi of the
// one before it.
type set []api.Span

// Union returns the union of some spans; ErrMany if there are too many, and
// ErrRange if one of them is no span of speeds.
func Union(l []api.Span) ([]api.Span, api.Errno) {
	if len(l) > MaxSpans {
		return nil, api.ErrMany
	}
	for _, x := range l {
		if !areSpeeds(x) {
			return nil, api.ErrRange
		}
	}
	return union(l), api.OK
}

// union returns the union of spans, which may be any number of them.
func union(l []api.Span) set {
	sorted := slices.SortedFunc(slices.Values(l), func(x, y api.Span) int { return cmp.Compare(x.Lo, y.Lo) })
	return joined(sorted, 0)
}

// widened returns all speeds that differ by at most some number from one of a
// set.
func (s set) widened(by int) set { return joined(s, by) }

// joined returns the set of spans in the order of their Lo, after each of them
// has been moved apart at both ends. Only spans that touch become one: between
// two integers that follow each other there are other speeds.
func joined(l []api.Span, apart int) set {
	s := make(set, 0, len(l))
	for _, x := range l {
		x = api.Span{Lo: x.Lo - apart, Hi: x.Hi + apart}
		if last := len(s) - 1; last >= 0 && x.Lo <= s[last].Hi {
			s[last].Hi = max(s[last].Hi, x.Hi)
		} else {
			s = append(s, x)
		}
	}
	return s
}

// common returns what two sets have in common.
func (s set) common(other set) set {
	var both set
	for len(s) > 0 && len(other) > 0 {
		if x, met := meet(s[0], other[0]); met {
			both = append(both, x)
		}
		// What ends first meets nothing further on.
		if s[0].Hi < other[0].Hi {
			s = s[1:]
		} else {
			other = other[1:]
		}
	}
	return both
}

// covers reports whether a set has all of another one.
func (s set) covers(other set) bool {
	for _, x := range other {
		for len(s) > 0 && s[0].Hi < x.Lo {
			s = s[1:]
		}
		if len(s) == 0 || !isWithin(x, s[0]) {
			return false
		}
	}
	return true
}

// hull returns the least span with all that a set and a span have in common,
// and whether there is anything.
func (s set) hull(x api.Span) (api.Span, bool) {
	begin := sort.Search(len(s), func(i int) bool { return s[i].Hi >= x.Lo })
	end := sort.Search(len(s), func(i int) bool { return s[i].Lo > x.Hi })
	if begin >= end {
		return api.Span{}, false
	}
	return api.Span{Lo: max(x.Lo, s[begin].Lo), Hi: min(x.Hi, s[end-1].Hi)}, true
}

// meet returns what two spans have in common, and whether there is anything.
func meet(x, y api.Span) (api.Span, bool) {
	both := api.Span{Lo: max(x.Lo, y.Lo), Hi: min(x.Hi, y.Hi)}
	if both.Lo > both.Hi {
		return api.Span{}, false
	}
	return both, true
}
