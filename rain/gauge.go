package rain

import (
	"sort"

	"radome/api"
)

// Fell returns how much rain fell into a gauge; ErrRange if one of its numbers
// is out of range.
func Fell(g Gauge) (api.Span, api.Errno) {
	if !isIn(g.Tips, 0, MaxTips) || !isIn(g.Size, 1, MaxBucket) {
		return api.Span{}, api.ErrRange
	}
	return fell(g), api.OK
}

// Adjust returns the scales that suit all pairs: ErrEmpty if there are no
// pairs, ErrMany if there are too many, ErrRange if one is out of range, and
// ErrConflict if no scale suits all, with the first two pairs of which no scale
// suits both.
func Adjust(l []Pair) (scale api.Span, at [2]int, e api.Errno) {
	if e := checkPairs(l); e != api.OK {
		return api.Span{}, [2]int{}, e
	}
	scale, some := common(l, scales)
	if !some {
		return api.Span{}, contradiction(l), api.ErrConflict
	}
	return scale, [2]int{}, api.OK
}

// checkPairs returns ErrEmpty if there are no pairs, ErrMany if there are too
// many, and the error of the first one with one.
func checkPairs(l []Pair) api.Errno {
	if len(l) == 0 {
		return api.ErrEmpty
	}
	if len(l) > MaxPairs {
		return api.ErrMany
	}
	for _, p := range l {
		if !isWithin(p.Sum, api.Span{Lo: 0, Hi: MaxSum}) {
			return api.ErrRange
		}
		if _, e := Fell(p.Gauge); e != api.OK {
			return e
		}
	}
	return api.OK
}

// fell returns how much rain fell into a valid gauge: almost nothing can have
// been missing to the first tip, and to the one that did not come any more.
func fell(g Gauge) api.Span {
	return api.Span{Lo: max(0, (g.Tips-1)*g.Size+1), Hi: (g.Tips+1)*g.Size - 1}
}

// scales returns the scales that suit a pair: from the first one with which its
// sum is enough, to the last one with which it is not too much. If there are
// none, Lo is above Hi.
func scales(p Pair) api.Span {
	rain := fell(p.Gauge)
	first := 1 + sort.Search(MaxScale, func(i int) bool { return p.Sum.Hi*(1+i) >= 1000*rain.Lo })
	beyond := 1 + sort.Search(MaxScale, func(i int) bool { return p.Sum.Lo*(1+i) > 1000*rain.Hi })
	return api.Span{Lo: first, Hi: beyond - 1}
}

// common returns what the spans that are asked of all elements have in common,
// and whether there is anything.
func common[T any](l []T, asked func(x T) api.Span) (api.Span, bool) {
	all := api.Span{Lo: 1, Hi: MaxScale}
	for _, x := range l {
		s := asked(x)
		all = api.Span{Lo: max(all.Lo, s.Lo), Hi: min(all.Hi, s.Hi)}
	}
	if all.Lo > all.Hi {
		return api.Span{}, false
	}
	return all, true
}

// contradiction returns the first two pairs of which no scale suits both. As
// the scales that suit a pair are a span, there are such two wherever no scale
// suits all.
func contradiction(l []Pair) (at [2]int) {
pairs:
	for i := range l {
		for j := i; j < len(l); j++ {
			if _, some := common([]Pair{l[i], l[j]}, scales); !some {
				at = [2]int{i, j}
				break pairs
			}
		}
	}
	return at
}
