package cast_test

import (
	"fmt"
	"math"
	"testing"

	"radome/api"
	"radome/cast"
)

// P9.2: quotients are rounded down at Lo and up at Hi, also below 0.
func TestFit(t *testing.T) {
	for i, x := range []struct {
		x, y           api.Span
		seconds, slack int
		want           cast.Flow
	}{
		{span(1, 2), span(-2, -1), 300, 0, flow(3333, 6667, -6667, -3333)},
		{span(-1, 1), span(0, 3), 700, 250, flow(-1786, 1786, -358, 4643)},
		{span(0, 0), span(0, 0), 1, 0, flow(0, 0, 0, 0)},
		{span(0, 0), span(0, 0), 86400, 0, flow(0, 0, 0, 0)},
		{span(64, 64), span(-64, -64), 86400, 0, flow(740, 741, -741, -740)},
		{span(0, 1), span(-1, 0), 86400, 2000, flow(-24, 35, -35, 24)},
		{span(-64, 64), span(-64, 64), 86400, 2000, flow(-764, 764, -764, 764)},
		{span(1, 1), span(-1, -1), 1000, 999, flow(1, 1999, -1999, -1)},
		{span(1, 1), span(-1, -1), 1000, 1001, flow(-1, 2001, -2001, 1)},
	} {
		wantSame(t, fmt.Sprint("case ", i), fit(t, x.x, x.y, x.seconds, x.slack), x.want)
	}
}

// P9.2: the flow that fits is as the chapter defines it: each end is the one
// number of which no other one is nearer.
func TestFitEnds(t *testing.T) {
	n := &noise{state: 100}
	for range 5000 {
		x, y := n.rush(64), n.rush(64)
		seconds, slack := n.of(1+n.upTo(86399), 640+n.upTo(3000)), n.of(0, 2000, n.upTo(2000))
		f, e := cast.Fit(x, y, seconds, slack)
		if e == api.ErrOver {
			continue
		}
		wantErr(t, "Fit", e, api.OK)
		for _, s := range []struct{ rush, by api.Span }{{f.X, x}, {f.Y, y}} {
			lo, hi := 1000*(1000*s.by.Lo-slack), 1000*(1000*s.by.Hi+slack)
			if s.rush.Lo*seconds > lo || (s.rush.Lo+1)*seconds <= lo || s.rush.Hi*seconds < hi || (s.rush.Hi-1)*seconds >= hi {
				t.Fatalf("%v pixels in %d seconds, slack %d: %v", s.by, seconds, slack, s.rush)
			}
		}
	}
}

// P9.2: a flow that is too fast is ErrOver, and none that just is not.
func TestFitOver(t *testing.T) {
	zero := span(0, 0)
	for i, x := range []struct {
		by             api.Span
		seconds, slack int
		e              api.Errno
	}{
		{span(64, 64), 640, 0, api.OK},
		{span(64, 64), 639, 0, api.ErrOver},
		{span(-64, -64), 640, 0, api.OK},
		{span(-64, -64), 639, 0, api.ErrOver},
		{span(-64, 0), 640, 1, api.ErrOver},
		{span(0, 64), 640, 1, api.ErrOver},
		{span(0, 0), 1, 100, api.OK},
		{span(0, 0), 1, 101, api.ErrOver},
		{span(1, 1), 3, 0, api.ErrOver},
		{span(1, 1), 10, 0, api.OK},
	} {
		for _, l := range [][2]api.Span{{x.by, zero}, {zero, x.by}} {
			f, e := cast.Fit(l[0], l[1], x.seconds, x.slack)
			wantErr(t, fmt.Sprint("case ", i), e, x.e)
			if e != api.OK {
				wantSame(t, "the flow of an error", f, cast.Flow{})
			}
		}
	}
}

// P9.2: what Fit does not take is ErrRange, also if the flow were too fast.
func TestFitErrors(t *testing.T) {
	fitted := func(x, y api.Span, seconds, slack int) api.Errno {
		f, e := cast.Fit(x, y, seconds, slack)
		if e != api.OK {
			wantSame(t, "the flow of an error", f, cast.Flow{})
		}
		return e
	}
	zero := span(0, 0)
	wantRange(t, "X to", 0, 64, func(n int) api.Errno { return fitted(span(0, n), zero, 1000, 0) })
	wantRange(t, "X from", -64, 0, func(n int) api.Errno { return fitted(span(n, 0), zero, 1000, 0) })
	wantRange(t, "Y to", 0, 64, func(n int) api.Errno { return fitted(zero, span(0, n), 1000, 0) })
	wantRange(t, "Y from", -64, 0, func(n int) api.Errno { return fitted(zero, span(n, 0), 1000, 0) })
	wantRange(t, "seconds", 1, 86400, func(n int) api.Errno { return fitted(zero, zero, n, 0) })
	wantRange(t, "slack", 0, 2000, func(n int) api.Errno { return fitted(zero, zero, 1000, n) })
	for _, s := range []api.Span{span(1, 0), span(-63, -64), span(65, 65), span(math.MaxInt, math.MinInt)} {
		wantErr(t, fmt.Sprint("X ", s), fitted(s, zero, 1, 0), api.ErrRange)
		wantErr(t, fmt.Sprint("Y ", s), fitted(zero, s, 1, 0), api.ErrRange)
	}
	wantErr(t, "too fast, and a slack", fitted(span(64, 64), zero, 1, 2001), api.ErrRange)
	wantErr(t, "too fast", fitted(span(64, 64), zero, 1, 2000), api.ErrOver)
}

// P9.2: a flow is widened on all sides, by what is rounded up, up to MaxRush.
func TestWiden(t *testing.T) {
	f := flow(-5, 10, 20, 20)
	for i, x := range []struct {
		change, seconds int
		want            cast.Flow
	}{
		{0, 86400, f},
		{100000, 0, f},
		{0, 0, f},
		{1, 1, flow(-6, 11, 19, 21)},
		{1, 3600, flow(-6, 11, 19, 21)},
		{1, 3601, flow(-7, 12, 18, 22)},
		{3600, 7, flow(-12, 17, 13, 27)},
		{3601, 1, flow(-7, 12, 18, 22)},
		{99985, 3600, flow(-99990, 99995, -99965, maxRush)},
		{99995, 3600, flow(-maxRush, maxRush, -99975, maxRush)},
		{100000, 3600, flow(-maxRush, maxRush, -99980, maxRush)},
		{100000, 86400, flow(-maxRush, maxRush, -maxRush, maxRush)},
	} {
		wantSame(t, fmt.Sprint("case ", i), widen(t, f, x.change, x.seconds), x.want)
	}
	wantSame(t, "at the ends", widen(t, flow(-maxRush, -maxRush, maxRush, maxRush), 7, 3600), flow(-maxRush, -maxRush+7, maxRush-7, maxRush))
}

// P9.2: the errors of Widen; that of the flow comes first, which is the same.
func TestWidenErrors(t *testing.T) {
	widened := func(f cast.Flow, change, seconds int) api.Errno {
		wide, e := cast.Widen(f, change, seconds)
		if e != api.OK {
			wantSame(t, "the flow of an error", wide, cast.Flow{})
		}
		return e
	}
	wantRange(t, "change", 0, maxRush, func(n int) api.Errno { return widened(cast.Flow{}, n, 3600) })
	wantRange(t, "seconds", 0, 86400, func(n int) api.Errno { return widened(cast.Flow{}, 100, n) })
	for _, f := range badFlows() {
		wantErr(t, fmt.Sprint("the flow ", f), widened(f, 0, 0), api.ErrRange)
		wantErr(t, fmt.Sprint("the flow ", f), widened(f, -1, 86401), api.ErrRange)
	}
}

// P9.3: flows meet in what they have in common; the hull has all of them.
func TestMeetAndHull(t *testing.T) {
	for i, x := range []struct {
		l          []cast.Flow
		meet, hull cast.Flow
	}{
		{[]cast.Flow{flow(-3, 4, 5, 5)}, flow(-3, 4, 5, 5), flow(-3, 4, 5, 5)},
		{[]cast.Flow{flow(-3, 4, 5, 9), flow(4, 8, 1, 5)}, flow(4, 4, 5, 5), flow(-3, 8, 1, 9)},
		{[]cast.Flow{flow(0, 9, -9, 0), flow(2, 3, -3, -2)}, flow(2, 3, -3, -2), flow(0, 9, -9, 0)},
		{[]cast.Flow{flow(0, 9, -9, 0), flow(5, 20, -4, 7), flow(-7, 6, -20, -1)}, flow(5, 6, -4, -1), flow(-7, 20, -20, 7)},
		{[]cast.Flow{flow(1, 1, 2, 2), flow(1, 1, 2, 2), flow(1, 1, 2, 2)}, flow(1, 1, 2, 2), flow(1, 1, 2, 2)},
		{[]cast.Flow{flow(-maxRush, maxRush, -maxRush, maxRush), flow(-maxRush, -maxRush, maxRush, maxRush)},
			flow(-maxRush, -maxRush, maxRush, maxRush), flow(-maxRush, maxRush, -maxRush, maxRush)},
	} {
		h, e := cast.Hull(x.l)
		wantErr(t, fmt.Sprint("the hull of the case ", i), e, api.OK)
		wantSame(t, fmt.Sprint("the hull of the case ", i), h, x.hull)
		wantSame(t, fmt.Sprint("case ", i), meet(t, x.l...), x.meet)
	}
}

// P9.3: the pair of flows that contradict each other is the first one.
func TestMeetConflict(t *testing.T) {
	wide := flow(-100, 100, -100, 100)
	for i, x := range []struct {
		l    []cast.Flow
		pair [2]int
	}{
		{[]cast.Flow{flow(0, 4, 0, 0), flow(5, 9, 0, 0)}, [2]int{0, 1}},
		{[]cast.Flow{flow(5, 9, 0, 0), flow(0, 4, 0, 0)}, [2]int{0, 1}},
		{[]cast.Flow{flow(0, 0, -1, -1), flow(0, 0, 0, 0)}, [2]int{0, 1}},
		{[]cast.Flow{flow(0, 0, 3, 4), flow(0, 0, 1, 2)}, [2]int{0, 1}},
		{[]cast.Flow{flow(0, 1, 0, 1), flow(2, 3, 2, 3)}, [2]int{0, 1}},
		{[]cast.Flow{wide, flow(0, 1, 0, 1), wide, flow(2, 3, 0, 1)}, [2]int{1, 3}},
		// 0 with 3 comes ahead of 1 with 2, and of 0 with 4
		{[]cast.Flow{flow(0, 5, 0, 9), flow(0, 2, 0, 9), flow(3, 9, 0, 9), flow(6, 9, 0, 9), flow(0, 9, 50, 60)}, [2]int{0, 3}},
		// in X 1 with 2, in Y 0 with 3
		{[]cast.Flow{flow(0, 9, 0, 1), flow(0, 2, 0, 9), flow(3, 9, 0, 9), flow(0, 9, 5, 9)}, [2]int{0, 3}},
		// in Y 1 with 2, in X 0 with 3
		{[]cast.Flow{flow(0, 1, 0, 9), flow(0, 9, 0, 2), flow(0, 9, 3, 9), flow(5, 9, 0, 9)}, [2]int{0, 3}},
		// only the last two
		{[]cast.Flow{wide, wide, flow(-100, -1, 0, 0), flow(0, 100, 0, 0)}, [2]int{2, 3}},
	} {
		f, pair, e := cast.Meet(x.l)
		wantErr(t, fmt.Sprint("case ", i), e, api.ErrConflict)
		wantSame(t, fmt.Sprint("the flow of the case ", i), f, cast.Flow{})
		wantSame(t, fmt.Sprint("the pair of the case ", i), pair, x.pair)
		_, e = cast.Hull(x.l)
		wantErr(t, fmt.Sprint("the hull of the case ", i), e, api.OK)
	}
}

// P9.3: no flows, too many, and flows that are not valid, in this order.
func TestMeetAndHullErrors(t *testing.T) {
	wantBoth := func(what string, l []cast.Flow, want api.Errno) {
		t.Helper()
		f, pair, e := cast.Meet(l)
		wantErr(t, what+" that meet", e, want)
		h, e := cast.Hull(l)
		wantErr(t, what+" in a hull", e, want)
		if want != api.OK {
			wantSame(t, what, []any{f, pair, h}, []any{cast.Flow{}, [2]int{}, cast.Flow{}})
		}
	}
	good, bad := flow(1, 2, 3, 4), flow(1, 0, 0, 0)
	many := func(count int, f cast.Flow) []cast.Flow {
		l := make([]cast.Flow, count)
		for i := range l {
			l[i] = f
		}
		return l
	}
	wantBoth("no flows", nil, api.ErrEmpty)
	wantBoth("no flows", []cast.Flow{}, api.ErrEmpty)
	wantBoth("a flow", many(1, good), api.OK)
	wantBoth("64 flows", many(64, good), api.OK)
	wantBoth("65 flows", many(65, good), api.ErrMany)
	wantBoth("65 bad flows", many(65, bad), api.ErrMany)
	for _, f := range badFlows() {
		wantBoth("a bad flow", []cast.Flow{f}, api.ErrRange)
		// which comes ahead of those that contradict each other
		wantBoth("a bad flow at last", []cast.Flow{good, flow(7, 8, 9, 9), f}, api.ErrRange)
	}
}

// wantPair returns the first two flows that contradict each other, or a pair of
// equal numbers.
func wantPair(l []cast.Flow) [2]int {
	apart := func(a, b api.Span) bool { return a.Hi < b.Lo || b.Hi < a.Lo }
	for i, f := range l {
		for j, g := range l {
			if i < j && (apart(f.X, g.X) || apart(f.Y, g.Y)) {
				return [2]int{i, j}
			}
		}
	}
	return [2]int{}
}

func isFlowWithin(f, outer cast.Flow) bool {
	isWithin := func(s, outer api.Span) bool { return outer.Lo <= s.Lo && s.Lo <= s.Hi && s.Hi <= outer.Hi }
	return isWithin(f.X, outer.X) && isWithin(f.Y, outer.Y)
}

// P9.10: flows contradict exactly if Meet returns ErrConflict; what they meet in
// lies within each, and each flow within all of them lies within it; the hull has
// all of them, and lies within each flow that has.
func TestMeetAndHullOfMany(t *testing.T) {
	met, apart := 0, 0
	for seed := range 3000 {
		n := &noise{state: uint64(200 + seed)}
		var l []cast.Flow
		for range 1 + n.upTo(4) {
			l = append(l, n.flow(8))
		}
		f, pair, e := cast.Meet(l)
		h, _ := cast.Hull(l)
		want := wantPair(l)
		wantSame(t, "the pair", pair, want)
		if want[1] > 0 {
			wantErr(t, fmt.Sprint("Meet of ", l), e, api.ErrConflict)
			apart++
		} else {
			wantErr(t, fmt.Sprint("Meet of ", l), e, api.OK)
			met++
		}
		for range 20 {
			inner, outer := n.flow(8), n.flow(12)
			isWithinAll, hasAll := true, true
			for _, other := range l {
				isWithinAll = isWithinAll && isFlowWithin(inner, other)
				hasAll = hasAll && isFlowWithin(other, outer)
			}
			if isWithinAll != (e == api.OK && isFlowWithin(inner, f)) {
				t.Errorf("%v meet in %v, and %v lies within all: %v", l, f, inner, isWithinAll)
			}
			if hasAll != isFlowWithin(h, outer) {
				t.Errorf("the hull of %v is %v, and %v has all: %v", l, h, outer, hasAll)
			}
		}
	}
	if met < 300 || apart < 300 {
		t.Errorf("%d lists meet, %d do not", met, apart)
	}
}

// P9.10: what moves on with the same rush fits a flow that meets the first one.
func TestFitsMeet(t *testing.T) {
	n := &noise{state: 300}
	for range 3000 {
		x, y, seconds := n.from(-8, 8), n.from(-8, 8), 80+n.upTo(9000)
		first := fit(t, span(x, x), span(y, y), seconds, 0)
		for times := 2; times <= 8; times++ {
			later := fit(t, span(times*x, times*x), span(times*y, times*y), times*seconds, 0)
			meet(t, first, later)
		}
	}
}

// G1: of a move within another one, with less slack, the flow lies within that
// of the other one; likewise that of a flow which is widened less.
func TestFlowsWithin(t *testing.T) {
	for seed := range 1000 {
		n := &noise{state: uint64(5000 + seed)}
		x, y, seconds, slack := n.rush(64), n.rush(64), 660+n.upTo(9000), n.upTo(2000)
		outer := fit(t, x, y, seconds, slack)
		inner := fit(t, n.within(x), n.within(y), seconds, n.upTo(slack))
		if !isFlowWithin(inner, outer) {
			t.Errorf("%v is not within %v", inner, outer)
		}
		change := n.upTo(20000)
		if less, more := widen(t, inner, n.upTo(change), seconds), widen(t, outer, change, seconds); !isFlowWithin(less, more) || !isFlowWithin(inner, less) {
			t.Errorf("%v widened is %v, and %v is %v", inner, less, outer, more)
		}
	}
}
