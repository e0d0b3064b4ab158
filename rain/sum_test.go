package rain_test

import (
	"math"
	"slices"
	"testing"

	"radome/api"
	"radome/rain"
)

const maxTime = 4294967296

// record returns the readings with triples of numbers.
func record(l ...int) []rain.Reading {
	var all []rain.Reading
	for i := 0; i+2 < len(l); i += 3 {
		all = append(all, rain.Reading{Time: l[i], Rate: span(l[i+1], l[i+2])})
	}
	return all
}

// wantSum adds what falls from each reading to the next one.
func wantSum(l []rain.Reading, end, slack int) api.Span {
	lo, hi := rat(0, 1), rat(0, 1)
	for i, r := range l {
		seconds, least, most := end-r.Time, r.Rate.Lo, r.Rate.Hi
		if i < len(l)-1 {
			next := l[i+1]
			seconds, least, most = next.Time-r.Time, min(least, next.Rate.Lo), max(most, next.Rate.Hi)
		}
		lo = plus(lo, times(times(rat(least, 1), rat(1000-slack, 1000)), rat(seconds, 360)))
		hi = plus(hi, times(times(rat(most, 1), rat(1000+slack, 1000)), rat(seconds, 360)))
	}
	return span(floor(lo), ceil(hi))
}

// P5.6: the examples; records of one reading and of several; ends at the last
// time and behind it; and slacks of 0 and 1,000.
func TestSumExamples(t *testing.T) {
	for _, x := range []struct {
		l          []rain.Reading
		end, slack int
		want       api.Span
	}{
		{record(0, 360, 360, 100, 720, 720), 200, 0, span(300, 400)},
		{record(0, 360, 360, 100, 720, 720), 200, 100, span(270, 440)},
		{record(0, 360, 360, 100, 720, 720), 200, 1000, span(0, 800)},
		{record(0, 360, 360, 100, 720, 720), 100, 0, span(100, 200)},
		{record(0, 720, 720, 100, 360, 360), 200, 0, span(200, 300)},
		{record(50, 360, 720), 50, 1000, pt(0)},
		{record(50, 360, 720), 150, 0, span(100, 200)},
		{record(50, 1, 1), 51, 0, span(0, 1)},
		{record(50, 1, 1), 410, 0, pt(1)},
		{record(50, 1, 1), 410, 1, span(0, 2)},
		{record(50, 0, 0), maxTime, 1000, pt(0)},
		{record(maxTime, 0, 1000000), maxTime, 0, pt(0)},
		{record(0, 0, 1000000), maxTime, 0, span(0, 11930464711112)},
		{record(0, 1000000, 1000000), maxTime, 0, span(11930464711111, 11930464711112)},
		{record(0, 1000000, 1000000), maxTime, 1000, span(0, 23860929422223)},
		{record(0, 5, 5, 1, 1000000, 1000000, maxTime, 1000000, 1000000), maxTime, 1000, span(0, 23860929422223)},
		// A reading between others makes itself felt on both sides.
		{record(0, 0, 360, 10, 3600, 7200, 20, 360, 360), 30, 0, span(20, 410)},
		// All is added before anything is rounded.
		{record(0, 1, 1, 120, 1, 1, 240, 1, 1), 360, 0, pt(1)},
	} {
		if got := mustSum(t, x.l, x.end, x.slack); got != x.want {
			t.Errorf("Sum(%v, %d, %d): %v, want %v", x.l, x.end, x.slack, got, x.want)
		}
	}
}

// record returns a valid one that ends before some time.
func (n *noise) record(count, until, most int) []rain.Reading {
	at := map[int]bool{}
	for len(at) < count {
		at[n.upTo(until)] = true
	}
	var l []rain.Reading
	for time := range at {
		l = append(l, rain.Reading{Time: time})
	}
	slices.SortFunc(l, func(a, b rain.Reading) int { return a.Time - b.Time })
	for i := range l {
		l[i].Rate = n.inside(span(0, most))
	}
	return l
}

// P5.6: sums against their definition.
func TestSum(t *testing.T) {
	n := &noise{state: 21}
	for range 2000 {
		until := n.of(60, 5000, math.MaxInt32)
		l := n.record(1+n.upTo(n.of(0, 3, 30)), until, n.of(3, 2000, 1000000))
		end, slack := n.of(l[len(l)-1].Time, until, until+n.upTo(5000)), n.of(0, 1, n.upTo(1000), 999, 1000)
		if got, want := mustSum(t, l, end, slack), wantSum(l, end, slack); got != want {
			t.Fatalf("Sum(%v, %d, %d): %v, want %v", l, end, slack, got, want)
		}
	}
}

// P5.10: a record that is cut in two; the sum of the whole is within the sums
// of both parts added, and these are wider by less than 2 at each end.
func TestSumInParts(t *testing.T) {
	n := &noise{state: 22}
	wider := 0
	for range 2000 {
		until := n.of(60, 5000)
		l := n.record(2+n.upTo(n.of(1, 10)), until, n.of(3, 2000, 1000000))
		cut, slack := n.upTo(len(l)-1), n.of(0, n.upTo(1000), 1000)
		whole := mustSum(t, l, until, slack)
		a, b := mustSum(t, l[:cut+1], l[cut].Time, slack), mustSum(t, l[cut:], until, slack)
		both := span(a.Lo+b.Lo, a.Hi+b.Hi)
		if !isWithin(whole, both) || whole.Lo-both.Lo >= 2 || both.Hi-whole.Hi >= 2 {
			t.Fatalf("Sum(%v, %d, %d): %v, but %v and %v if cut at %d", l, until, slack, whole, a, b, cut)
		}
		if whole != both {
			wider++
		}
	}
	if wider < 100 {
		t.Errorf("only %d sums of parts are wider", wider)
	}
}

// P5.10, G1: a greater slack widens sums; so do wider rates.
func TestSumOfMore(t *testing.T) {
	n := &noise{state: 23}
	for range 2000 {
		l := n.record(1+n.upTo(5), 1000, n.of(3, 2000, 1000000))
		end, slack := 1000+n.upTo(500), n.upTo(1000)
		s := mustSum(t, l, end, slack)
		if more := mustSum(t, l, end, slack+n.upTo(1000-slack)); !isWithin(s, more) {
			t.Fatalf("Sum(%v, %d, %d): %v, not in %v", l, end, slack, s, more)
		}
		tight := slices.Clone(l)
		for i := range tight {
			tight[i].Rate = n.inside(l[i].Rate)
		}
		if less := mustSum(t, tight, end, slack); !isWithin(less, s) {
			t.Fatalf("Sum(%v, %d, %d): %v, not in %v", tight, end, slack, less, s)
		}
	}
}

// P5.10: one more reading between two others, within the hull of theirs.
func TestSumWithOneMore(t *testing.T) {
	n := &noise{state: 24}
	closer := 0
	for range 2000 {
		l := n.record(2+n.upTo(4), 1000, n.of(3, 2000))
		i := n.upTo(len(l) - 2)
		a, b := l[i], l[i+1]
		if b.Time-a.Time < 2 {
			continue
		}
		rate := n.inside(span(min(a.Rate.Lo, b.Rate.Lo), max(a.Rate.Hi, b.Rate.Hi)))
		more := slices.Insert(slices.Clone(l), i+1, rain.Reading{Time: a.Time + 1 + n.upTo(b.Time-a.Time-2), Rate: rate})
		slack := n.of(0, 100, 1000)
		s, outer := mustSum(t, more, 1100, slack), mustSum(t, l, 1100, slack)
		if !isWithin(s, outer) {
			t.Fatalf("Sum(%v): %v, not in %v of %v", more, s, outer, l)
		}
		if s != outer {
			closer++
		}
	}
	if closer < 100 {
		t.Errorf("only %d sums become closer", closer)
	}
}

// P5.10, G1: rates that change at any second, within the hull of both readings
// around them, and that are wrong by no more than the slack.
func TestSumTruth(t *testing.T) {
	n := &noise{state: 25}
	for range 300 {
		l := n.record(1+n.upTo(4), 60, n.of(3, 2000))
		end, slack := 60+n.upTo(20), n.upTo(1000)
		fell := rat(0, 1)
		for second := l[0].Time; second < end; second++ {
			i := slices.IndexFunc(l, func(r rain.Reading) bool { return r.Time > second })
			rate := l[len(l)-1].Rate
			if i >= 0 {
				rate = span(min(l[i-1].Rate.Lo, l[i].Rate.Lo), max(l[i-1].Rate.Hi, l[i].Rate.Hi))
			}
			err := n.upTo(2*slack) - slack
			fell = plus(fell, times(rat(n.inside(rate).Lo, 360), rat(1000+err, 1000)))
		}
		if s := mustSum(t, l, end, slack); fell.Cmp(rat(s.Lo, 1)) < 0 || fell.Cmp(rat(s.Hi, 1)) > 0 {
			t.Fatalf("Sum(%v, %d, %d): %v, but %v fell", l, end, slack, s, fell)
		}
	}
}

// P5.6: each number of a record, its end and the slack.
func TestSumRanges(t *testing.T) {
	sum := func(l []rain.Reading, end, slack int) api.Errno {
		s, e := rain.Sum(l, end, slack)
		if e != api.OK && s != (api.Span{}) {
			t.Errorf("Sum(%v, %d, %d): %v with the error %d", l, end, slack, s, e)
		}
		return e
	}
	checkLimits(t, "Time", 0, maxTime, func(n int) api.Errno { return sum(record(n, 5, 5), maxTime, 0) })
	checkLimits(t, "a rate", 0, 1000000, func(n int) api.Errno { return sum(record(0, n, n), 5, 0) })
	checkLimits(t, "Rate.Lo", 0, 77, func(n int) api.Errno { return sum(record(0, 1, 1, 3, n, 77), 5, 0) })
	checkLimits(t, "Rate.Hi", 77, 1000000, func(n int) api.Errno { return sum(record(0, 1, 1, 3, 77, n), 5, 0) })
	checkLimits(t, "end", 0, maxTime, func(n int) api.Errno { return sum(record(0, 5, 5), n, 0) })
	checkLimits(t, "slack", 0, 1000, func(n int) api.Errno { return sum(record(0, 5, 5), 9, n) })
}

// P5.6: which error comes first.
func TestSumErrors(t *testing.T) {
	two := record(3, 1, 1, 5, 1, 1)
	for what, x := range map[string]struct {
		l          []rain.Reading
		end, slack int
		want       api.Errno
	}{
		"no readings":                  {nil, -1, -1, api.ErrEmpty},
		"an empty record":              {record(), 5, 0, api.ErrEmpty},
		"equal times":                  {record(3, 1, 1, 3, 1, 1), 9, 0, api.ErrOrder},
		"times that go back":           {record(3, 1, 1, 2, 1, 1), 9, 0, api.ErrOrder},
		"range ahead of order":         {record(3, 1, 1, 2, 1, 0), 9, 0, api.ErrRange},
		"order in an earlier one":      {record(3, 1, 1, 3, 1, 1, 4, 1, 0), 9, 0, api.ErrOrder},
		"range in an earlier one":      {record(3, 1, 0, 3, 1, 1), 9, 0, api.ErrRange},
		"order ahead of the end":       {record(3, 1, 1, 2, 1, 1), -1, 0, api.ErrOrder},
		"order ahead of the slack":     {record(3, 1, 1, 2, 1, 1), 9, 1001, api.ErrOrder},
		"order ahead of what is late":  {record(3, 1, 1, 2, 1, 1), 0, 0, api.ErrOrder},
		"slack ahead of what is late":  {two, 4, -1, api.ErrRange},
		"an end ahead of what is late": {two, -1, 0, api.ErrRange},
		"late":                         {two, 4, 0, api.ErrLate},
		"all too late":                 {two, 0, 1000, api.ErrLate},
		"just in time":                 {two, 5, 0, api.OK},
	} {
		s, e := rain.Sum(x.l, x.end, x.slack)
		if e != x.want || e != api.OK && s != (api.Span{}) {
			t.Errorf("%s: %v %d, want %d", what, s, e, x.want)
		}
	}
}
