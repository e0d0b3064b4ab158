package rain_test

import (
	"math"
	"slices"
	"testing"

	"radome/api"
	"radome/rain"
)

const maxScale = 100000

// pair returns one with a sum, and a gauge.
func pair(lo, hi, tips, size int) rain.Pair {
	return rain.Pair{Sum: span(lo, hi), Gauge: rain.Gauge{Tips: tips, Size: size}}
}

// wantFell returns the least and the most rain with which a bucket is emptied
// so often, whatever was in it before.
func wantFell(g rain.Gauge) api.Span {
	least, most := math.MaxInt, 0
	for before := range g.Size {
		for fell := 0; (before+fell)/g.Size <= g.Tips; fell++ {
			if (before+fell)/g.Size == g.Tips {
				least, most = min(least, fell), max(most, fell)
			}
		}
	}
	return span(least, most)
}

// suits reports whether a scale suits a pair.
func suits(scale int, p rain.Pair) bool {
	fell := span(max(0, (p.Gauge.Tips-1)*p.Gauge.Size+1), (p.Gauge.Tips+1)*p.Gauge.Size-1)
	return p.Sum.Lo*scale <= 1000*fell.Hi && p.Sum.Hi*scale >= 1000*fell.Lo
}

// wantScales tries all scales.
func wantScales(l ...rain.Pair) []int {
	var all []int
	for scale := 1; scale <= maxScale; scale++ {
		if !slices.ContainsFunc(l, func(p rain.Pair) bool { return !suits(scale, p) }) {
			all = append(all, scale)
		}
	}
	return all
}

// P5.7: the examples, gauges without tips, and the ends of what gauges can be.
func TestFellExamples(t *testing.T) {
	for g, want := range map[rain.Gauge]api.Span{
		{Tips: 3, Size: 200}:         span(401, 799),
		{Tips: 0, Size: 200}:         span(0, 199),
		{Tips: 1, Size: 200}:         span(1, 399),
		{Tips: 2, Size: 200}:         span(201, 599),
		{Tips: 0, Size: 1}:           pt(0),
		{Tips: 1, Size: 1}:           pt(1),
		{Tips: 4, Size: 1}:           pt(4),
		{Tips: 0, Size: 10000}:       span(0, 9999),
		{Tips: 1000000, Size: 10000}: span(9999990001, 10000009999),
		{Tips: 1000000, Size: 1}:     pt(1000000),
	} {
		if got, e := rain.Fell(g); got != want || e != api.OK {
			t.Errorf("Fell(%v): %v %d, want %v", g, got, e, want)
		}
	}
}

// P5.7, G1: what fell into small gauges, whatever was in the bucket before.
func TestFell(t *testing.T) {
	for tips := range 8 {
		for size := 1; size <= 9; size++ {
			g := rain.Gauge{Tips: tips, Size: size}
			if got, e := rain.Fell(g); got != wantFell(g) || e != api.OK {
				t.Errorf("Fell(%v): %v %d, want %v", g, got, e, wantFell(g))
			}
		}
	}
}

// P5.7: each number of a gauge.
func TestFellErrors(t *testing.T) {
	fell := func(g rain.Gauge) api.Errno {
		s, e := rain.Fell(g)
		if e != api.OK && s != (api.Span{}) {
			t.Errorf("Fell(%v): %v with the error %d", g, s, e)
		}
		return e
	}
	checkLimits(t, "Tips", 0, 1000000, func(n int) api.Errno { return fell(rain.Gauge{Tips: n, Size: 200}) })
	checkLimits(t, "Size", 1, 10000, func(n int) api.Errno { return fell(rain.Gauge{Tips: 3, Size: n}) })
}

// P5.7: the examples, pairs that are suited by all scales or by one, and pairs
// that no scale suits alone.
func TestAdjustExamples(t *testing.T) {
	for what, x := range map[string]struct {
		l    []rain.Pair
		want api.Span
	}{
		"the example":                    {[]rain.Pair{pair(1000, 2000, 3, 200), pair(4000, 4000, 10, 200)}, span(451, 549)},
		"the first one alone":            {[]rain.Pair{pair(1000, 2000, 3, 200)}, span(201, 799)},
		"the second one alone":           {[]rain.Pair{pair(4000, 4000, 10, 200)}, span(451, 549)},
		"nothing seen, and nothing fell": {[]rain.Pair{pair(0, 0, 0, 1)}, span(1, maxScale)},
		"nothing seen, a first tip":      {[]rain.Pair{pair(0, 1, 1, 10000)}, span(1000, maxScale)},
		"perhaps nothing seen":           {[]rain.Pair{pair(0, 5, 3, 1)}, span(600, maxScale)},
		"anything seen":                  {[]rain.Pair{pair(0, 1<<31, 3, 200)}, span(1, maxScale)},
		"the greatest sum":               {[]rain.Pair{pair(1<<31, 1<<31, 214748, 10000)}, pt(1000)},
		"the greatest gauge":             {[]rain.Pair{pair(0, 1<<31, 1000000, 10000)}, span(4657, maxScale)},
		"the least scale":                {[]rain.Pair{pair(4000, 4000, 4, 1)}, pt(1)},
		"the greatest scale":             {[]rain.Pair{pair(4, 4, 400, 1)}, pt(100000)},
		"only one scale":                 {[]rain.Pair{pair(3, 3, 6, 1)}, pt(2000)},
		"scales that just touch":         {[]rain.Pair{pair(1000, 1000, 3, 200), pair(1000, 1000, 799, 1)}, pt(799)},
	} {
		scale, at, e := rain.Adjust(x.l)
		if scale != x.want || at != [2]int{} || e != api.OK {
			t.Errorf("%s: %v %v %d, want %v", what, scale, at, e, x.want)
		}
	}
}

// P5.7: pairs that contradict each other, and which two are named.
func TestAdjustConflicts(t *testing.T) {
	low, middle, high := pair(1000, 1000, 500, 1), pair(1000, 1000, 1000, 1), pair(1000, 1000, 2000, 1)
	wide := pair(0, 1<<31, 3, 200)
	none := pair(3, 3, 4, 1) // with 1333 too little, with 1334 too much
	for what, x := range map[string]struct {
		l    []rain.Pair
		want [2]int
	}{
		"the example":                   {[]rain.Pair{pair(1000, 1000, 3, 200), pair(4000, 4000, 100, 200)}, [2]int{0, 1}},
		"scales that just do not touch": {[]rain.Pair{pair(1000, 1000, 3, 200), pair(1000, 1000, 800, 1)}, [2]int{0, 1}},
		"too much in all cases":         {[]rain.Pair{pair(1, 1<<31, 0, 1)}, [2]int{0, 0}},
		"too little in all cases":       {[]rain.Pair{pair(0, 0, 1, 1)}, [2]int{0, 0}},
		"beyond the greatest scale":     {[]rain.Pair{pair(4, 4, 401, 1)}, [2]int{0, 0}},
		"below the least scale":         {[]rain.Pair{pair(4001, 4001, 4, 1)}, [2]int{0, 0}},
		"between two scales":            {[]rain.Pair{none}, [2]int{0, 0}},
		"the greatest numbers":          {[]rain.Pair{pair(1<<31, 1<<31, 1000000, 10000)}, [2]int{0, 0}},
		"one with itself":               {[]rain.Pair{none, middle, none}, [2]int{0, 0}},
		"one that nothing suits, last":  {[]rain.Pair{wide, middle, none}, [2]int{0, 2}},
		"one with an earlier one":       {[]rain.Pair{wide, middle, high, none}, [2]int{0, 3}},
		"one with a later one":          {[]rain.Pair{middle, none, high}, [2]int{0, 1}},
		"three that contradict":         {[]rain.Pair{low, middle, high}, [2]int{0, 1}},
		"behind one that suits all":     {[]rain.Pair{wide, low, wide, high, middle}, [2]int{1, 3}},
		"the least i, not the least j":  {[]rain.Pair{low, wide, low, wide, high}, [2]int{0, 4}},
		"the least j of it":             {[]rain.Pair{wide, wide, low, middle, high}, [2]int{2, 3}},
		"the last two":                  {[]rain.Pair{wide, wide, high, low}, [2]int{2, 3}},
		"a greater one ahead":           {[]rain.Pair{high, wide, low}, [2]int{0, 2}},
		"the last of as many as can be": {append(slices.Repeat([]rain.Pair{middle}, 99), low), [2]int{0, 99}},
	} {
		scale, at, e := rain.Adjust(x.l)
		if scale != (api.Span{}) || at != x.want || e != api.ErrConflict {
			t.Errorf("%s: %v %v %d, want %v", what, scale, at, e, x.want)
		}
	}
}

// pairs returns some that one scale could suit, within some error.
func (n *noise) pairs(count int) []rain.Pair {
	scale, err := n.of(1, 1000, 1+n.upTo(3000), 90000), n.of(0, 30, 300)
	var l []rain.Pair
	for range count {
		size := n.of(1, 7, 200)
		p := rain.Pair{Gauge: rain.Gauge{Tips: n.upTo(n.of(3, 3000)), Size: size}}
		sum := p.Gauge.Tips * size * 1000 / scale
		p.Sum.Lo = max(0, sum*(1000-n.upTo(err))/1000-n.upTo(2))
		p.Sum.Hi = max(p.Sum.Lo, sum*(1000+n.upTo(err))/1000+n.upTo(2))
		l = append(l, p)
	}
	return l
}

// wantConflict returns the first two pairs without a scale that suits both.
func wantConflict(l []rain.Pair) [2]int {
	for i := range l {
		for j := i; j < len(l); j++ {
			if len(wantScales(l[i], l[j])) == 0 {
				return [2]int{i, j}
			}
		}
	}
	return [2]int{-1, -1}
}

// P5.7, P5.11: all scales are tried.
func TestAdjust(t *testing.T) {
	n := &noise{state: 31}
	conflicts := map[bool]int{}
	for range 150 {
		l := n.pairs(1 + n.upTo(5))
		scale, at, e := rain.Adjust(l)
		all := wantScales(l...)
		conflicts[len(all) == 0]++
		if len(all) == 0 {
			if want := wantConflict(l); e != api.ErrConflict || at != want || scale != (api.Span{}) {
				t.Fatalf("Adjust(%v): %v %v %d, want a conflict at %v", l, scale, at, e, want)
			}
			continue
		}
		want := span(all[0], all[len(all)-1])
		if scale != want || at != [2]int{} || e != api.OK || len(all) != want.Hi-want.Lo+1 {
			t.Fatalf("Adjust(%v): %v %v %d, want %d scales of %v", l, scale, at, e, len(all), want)
		}
	}
	if conflicts[true] < 20 || conflicts[false] < 20 {
		t.Errorf("conflicts: %v", conflicts)
	}
}

// P5.11, G1: with one pair less, or with wider sums, the scales that suit are
// these, or more.
func TestFewerPairs(t *testing.T) {
	n := &noise{state: 32}
	wider := 0
	for range 2000 {
		l := n.pairs(2 + n.upTo(5))
		scale, _, e := rain.Adjust(l)
		if e != api.OK {
			continue
		}
		i := n.upTo(len(l) - 1)
		fewer, _, e := rain.Adjust(slices.Delete(slices.Clone(l), i, i+1))
		if e != api.OK || !isWithin(scale, fewer) {
			t.Fatalf("Adjust(%v): %v, but %v %d without the pair %d", l, scale, fewer, e, i)
		}
		loose := slices.Clone(l)
		loose[i].Sum = span(max(0, l[i].Sum.Lo-n.upTo(9)), l[i].Sum.Hi+n.upTo(9))
		more, _, e := rain.Adjust(loose)
		if e != api.OK || !isWithin(scale, more) {
			t.Fatalf("Adjust(%v): %v, but %v %d of %v", l, scale, more, e, loose)
		}
		if scale != fewer {
			wider++
		}
	}
	if wider < 100 {
		t.Errorf("only %d pairs say something", wider)
	}
}

// P5.7: each number of a pair.
func TestAdjustRanges(t *testing.T) {
	adjust := func(p rain.Pair) api.Errno {
		scale, at, e := rain.Adjust([]rain.Pair{pair(0, 1<<31, 3, 200), p})
		if e != api.OK && (scale != (api.Span{}) || at != [2]int{} && e != api.ErrConflict) {
			t.Errorf("Adjust of %v: %v %v with the error %d", p, scale, at, e)
		}
		if e == api.ErrConflict {
			return api.OK // only what is valid can contradict
		}
		return e
	}
	checkLimits(t, "a sum", 0, 1<<31, func(n int) api.Errno { return adjust(pair(n, n, 3, 200)) })
	checkLimits(t, "Sum.Lo", 0, 77, func(n int) api.Errno { return adjust(pair(n, 77, 3, 200)) })
	checkLimits(t, "Sum.Hi", 77, 1<<31, func(n int) api.Errno { return adjust(pair(77, n, 3, 200)) })
	checkLimits(t, "Tips", 0, 1000000, func(n int) api.Errno { return adjust(pair(0, 1<<31, n, 200)) })
	checkLimits(t, "Size", 1, 10000, func(n int) api.Errno { return adjust(pair(0, 1<<31, 3, n)) })
}

// P5.7: how many pairs there are, ahead of what is wrong with them, and this
// ahead of what contradicts.
func TestAdjustErrors(t *testing.T) {
	good, none := pair(1000, 2000, 3, 200), pair(3, 3, 4, 1)
	for what, x := range map[string]struct {
		l    []rain.Pair
		want api.Errno
	}{
		"no pairs":              {nil, api.ErrEmpty},
		"an empty list":         {[]rain.Pair{}, api.ErrEmpty},
		"100 pairs":             {slices.Repeat([]rain.Pair{good}, 100), api.OK},
		"101 pairs":             {slices.Repeat([]rain.Pair{good}, 101), api.ErrMany},
		"101 pairs with others": {slices.Repeat([]rain.Pair{{}}, 101), api.ErrMany},
		"no gauge":              {[]rain.Pair{{}}, api.ErrRange},
		"the last one":          {[]rain.Pair{good, none, pair(1, 0, 3, 200)}, api.ErrRange},
		"the last gauge":        {[]rain.Pair{none, good, pair(1, 1, 3, 0)}, api.ErrRange},
	} {
		scale, at, e := rain.Adjust(x.l)
		if e != x.want || at != [2]int{} || e != api.OK && scale != (api.Span{}) {
			t.Errorf("%s: %v %v %d, want %d", what, scale, at, e, x.want)
		}
	}
}
