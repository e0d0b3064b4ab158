package pulse

import (
	"slices"

	"radome/api"
)

// arc is the narrowest part of a turn that has some numbers.
type arc struct {
	numbers []int
	base    int
	width   int
}

// Arc returns where the arc of some numbers begins, and how wide it is;
// ErrEmpty if there are none, and ErrRange if one is not a part of a turn.
func Arc(l []int) (base, width int, e api.Errno) {
	if len(l) == 0 {
		return 0, 0, api.ErrEmpty
	}
	for _, n := range l {
		if !isPart(n) {
			return 0, 0, api.ErrRange
		}
	}
	a := arcOf(l)
	return a.base, a.width, api.OK
}

// arcOf returns the arc of parts of a turn. That of none has no width.
func arcOf(l []int) arc {
	sorted := slices.Compact(slices.Sorted(slices.Values(l)))
	a := arc{numbers: l}
	for i, base := range sorted {
		// Going on from base over the turn's end, one meets the number before
		// base last.
		last := sorted[(i+len(sorted)-1)%len(sorted)]
		if width := modulo(last - base); i == 0 || width < a.width {
			a.base, a.width = base, width
		}
	}
	return a
}

// isTogether reports whether numbers go together with an error.
func (a arc) isTogether(err int) bool { return a.width+4*err < api.MaxTurn/2 }

// mean returns the span of the mean of numbers that go together, if their sum
// differs from the true one by at most a slack; 0 to 0 if there are none.
func (a arc) mean(slack int) api.Span {
	count := len(a.numbers)
	if count == 0 {
		return api.Span{}
	}
	sum := 0
	for _, n := range a.numbers {
		sum += a.base + modulo(n-a.base)
	}
	return unwound(api.Span{Lo: down(sum-slack, count), Hi: up(sum+slack, count)})
}

// unwound returns a span less as many whole turns as echoes leave out.
func unwound(s api.Span) api.Span {
	lo := modulo(s.Lo+api.MaxTurn/2) - api.MaxTurn/2
	return api.Span{Lo: lo, Hi: lo + s.Hi - s.Lo}
}
