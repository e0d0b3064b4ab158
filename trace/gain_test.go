package trace_test

import (
	"math"
	"testing"

	"radome/api"
	"radome/trace"
)

// P7.5: the gain by one test, down and up, but at least 1.
func TestGainOfOneTest(t *testing.T) {
	for _, x := range []struct{ value, reading, want api.Span }{
		{span(1000, 1000), span(1000, 1000), span(1000, 1000)},
		{span(499, 506), span(998, 1012), span(1972, 2029)},
		{span(7, 9), span(1, 1), span(111, 143)},
		{span(1000, 1001), span(1, 2), span(1, 2)},
		{span(1001, 1001), span(1, 1), span(1, 1)},
		{span(1000000, 1000000), span(1, 1), span(1, 1)},
		{span(3, 3), span(1, 2), span(333, 667)},
		{span(2, 4), span(10, 20), span(2500, 10000)},
		{span(1, 1000000), span(1, 1000000000), span(1, 1000000000000)},
		{span(1, 1), span(1000000000, 1000000000), span(1000000000000, 1000000000000)},
	} {
		b := bookOf(t, radar("r", 0), root("a", x.value.Lo, x.value.Hi, 50, 50, 7), test("r", "a", 50, x.reading.Lo, x.reading.Hi))
		for _, time := range []int{0, 50, 51, maxTime} {
			wantGain(t, b, "r", time, x.want, [2]int{}, api.OK)
		}
	}
}

// P7.5: it is the value of the standard at the time of the test that says the
// gain, and the drift of the radar that widens it, before and behind the test.
func TestGainInTime(t *testing.T) {
	b := bookOf(t, radar("r", 3), root("a", 1000, 1010, 0, 864000, 10), test("r", "a", 432001, 500, 600))
	wantValue(t, b, "a", 432001, span(949, 1061), api.OK)
	for time, want := range map[int]api.Span{
		432001: span(471, 633), 432000: span(470, 634), 432002: span(470, 634), 403201: span(470, 634), 403200: span(469, 635),
		460801: span(470, 634), 460802: span(469, 635), 345601: span(468, 636), 518401: span(468, 636), 518402: span(467, 637),
		0: span(455, 649), maxTime: span(1, 149749),
	} {
		wantGain(t, b, "r", time, want, [2]int{}, api.OK)
	}
	small := bookOf(t, radar("r", 86400), unit("a"), test("r", "a", 100, 3, 5))
	for time, want := range map[int]api.Span{
		100: span(3, 5), 99: span(2, 6), 101: span(2, 6), 98: span(1, 7), 102: span(1, 7), 97: span(1, 8), 103: span(1, 8), 0: span(1, 105),
	} {
		wantGain(t, small, "r", time, want, [2]int{}, api.OK)
	}
	great := bookOf(t, radar("r", 1000000), root("a", 1, 1, 0, maxTime, 0), test("r", "a", maxTime, 1000000000, 1000000000))
	wantGain(t, great, "r", 0, span(950289730370, 1049710269630), [2]int{}, api.OK)
}

// P7.5: which error of Gain comes first.
func TestGainErrors(t *testing.T) {
	b := bookOf(t, radar("none", 0), radar("other", 0), radar("void", 0), unit("a"), root("b", 1, 1, 0, maxTime, 0),
		test("other", "a", 0, 1, 1), test("void", "b", 0, 1, 1), test("void", "b", 5, 9, 9), withdraw("b"))
	for _, x := range []struct {
		radar string
		time  int
		want  api.Errno
	}{
		{"x", 0, api.ErrNone}, {"x", -1, api.ErrNone}, {"a", 0, api.ErrNone}, {"", maxTime + 1, api.ErrNone},
		{"none", -1, api.ErrRange}, {"void", -1, api.ErrRange}, {"other", -1, api.ErrRange}, {"none", maxTime + 1, api.ErrRange},
		{"other", math.MinInt, api.ErrRange}, {"other", math.MaxInt, api.ErrRange},
		{"none", 0, api.ErrEmpty}, {"none", maxTime, api.ErrEmpty}, {"void", 0, api.ErrEmpty}, {"void", maxTime, api.ErrEmpty},
	} {
		wantGain(t, b, x.radar, x.time, api.Span{}, [2]int{}, x.want)
	}
	wantGain(t, b, "other", 0, span(1, 1), [2]int{}, api.OK)
	wantGain(t, b, "other", maxTime, span(1, 1), [2]int{}, api.OK)
	enter(t, b, reinstate("b"))
	wantGain(t, b, "void", 0, api.Span{}, [2]int{1, 2}, api.ErrConflict)
}

// readings returns a book with a unit, and the gains that tests say at once:
// those of r, in pairs of Lo and Hi.
func readings(t *testing.T, drift int, l ...int) *trace.Book {
	t.Helper()
	b := bookOf(t, radar("r", drift), unit("a"))
	for i := 0; i+1 < len(l); i += 2 {
		enter(t, b, test("r", "a", 1000, l[i], l[i+1]))
	}
	return b
}

// P7.5: what several tests have in common, and which of those that contradict
// each other are named.
func TestSeveralTests(t *testing.T) {
	for what, x := range map[string]struct {
		readings []int
		want     api.Span
		at       [2]int
		e        api.Errno
	}{
		"the same":                         {[]int{5, 9, 5, 9}, span(5, 9), [2]int{}, api.OK},
		"one within the other":             {[]int{5, 9, 6, 7}, span(6, 7), [2]int{}, api.OK},
		"the other within the one":         {[]int{6, 7, 5, 9}, span(6, 7), [2]int{}, api.OK},
		"some in common":                   {[]int{5, 9, 8, 12, 7, 20}, span(8, 9), [2]int{}, api.OK},
		"two that just meet":               {[]int{5, 9, 9, 12}, span(9, 9), [2]int{}, api.OK},
		"two that just meet below":         {[]int{9, 12, 5, 9}, span(9, 9), [2]int{}, api.OK},
		"two that just contradict":         {[]int{5, 9, 10, 12}, api.Span{}, [2]int{0, 1}, api.ErrConflict},
		"two that just contradict below":   {[]int{10, 12, 5, 9}, api.Span{}, [2]int{0, 1}, api.ErrConflict},
		"two points":                       {[]int{5, 5, 6, 6}, api.Span{}, [2]int{0, 1}, api.ErrConflict},
		"two of three":                     {[]int{1, 20, 5, 9, 10, 12}, api.Span{}, [2]int{1, 2}, api.ErrConflict},
		"two around one":                   {[]int{5, 9, 1, 20, 10, 12}, api.Span{}, [2]int{0, 2}, api.ErrConflict},
		"the least first one":              {[]int{5, 20, 5, 8, 15, 20, 30, 40}, api.Span{}, [2]int{0, 3}, api.ErrConflict},
		"of that, the least second one":    {[]int{5, 20, 5, 20, 30, 40, 1, 4}, api.Span{}, [2]int{0, 2}, api.ErrConflict},
		"one that all others contradict":   {[]int{5, 20, 6, 9, 7, 8, 30, 40}, api.Span{}, [2]int{0, 3}, api.ErrConflict},
		"not those that are farthest away": {[]int{50, 60, 70, 80, 10, 20, 90, 99}, api.Span{}, [2]int{0, 1}, api.ErrConflict},
	} {
		b := readings(t, 0, x.readings...)
		if got, at, e := b.Gain("r", 1000); got != x.want || at != x.at || e != x.e {
			t.Errorf("%s: %v %v %d, want %v %v %d", what, got, at, e, x.want, x.at, x.e)
		}
	}
}

// P7.5: tests that contradict each other at one time need not do so at another
// one.
func TestConflictsInTime(t *testing.T) {
	b := readings(t, 86400, 10, 20, 31, 40)
	wantGain(t, b, "r", 1000, api.Span{}, [2]int{0, 1}, api.ErrConflict)
	wantGain(t, b, "r", 1005, api.Span{}, [2]int{0, 1}, api.ErrConflict)
	wantGain(t, b, "r", 1006, span(25, 26), [2]int{}, api.OK)
	wantGain(t, b, "r", 994, span(25, 26), [2]int{}, api.OK)
	wantGain(t, b, "r", 995, api.Span{}, [2]int{0, 1}, api.ErrConflict)
	later := bookOf(t, radar("r", 86400), unit("a"), test("r", "a", 1000, 10, 20), test("r", "a", 1010, 31, 40))
	wantGain(t, later, "r", 999, span(20, 21), [2]int{}, api.OK)
	wantGain(t, later, "r", 1000, api.Span{}, [2]int{0, 1}, api.ErrConflict)
	wantGain(t, later, "r", 1010, api.Span{}, [2]int{0, 1}, api.ErrConflict)
	wantGain(t, later, "r", 1011, span(30, 31), [2]int{}, api.OK)
}

// P7.5: numbers of tests are those of the book, also between tests of other
// radars, and tests that do not count.
func TestNumbersOfConflicts(t *testing.T) {
	b := bookOf(t, radar("r", 0), radar("s", 0), unit("a"), unit("b"),
		test("s", "a", 0, 1, 1), test("r", "b", 0, 90, 99), test("r", "a", 0, 10, 20), test("s", "a", 0, 1, 1),
		test("r", "b", 0, 5, 6), test("s", "b", 0, 3, 3), test("r", "a", 0, 30, 40), withdraw("b"))
	wantGain(t, b, "r", 0, api.Span{}, [2]int{2, 6}, api.ErrConflict)
	wantGain(t, b, "s", 0, span(1, 1), [2]int{}, api.OK)
	enter(t, b, reinstate("b"))
	wantGain(t, b, "r", 0, api.Span{}, [2]int{1, 2}, api.ErrConflict)
	wantGain(t, b, "s", 0, api.Span{}, [2]int{0, 5}, api.ErrConflict)
}

// P7.5: as many tests as there may be.
func TestManyTests(t *testing.T) {
	var l []int
	for i := range 511 {
		l = append(l, 1000+i, 3000-i)
	}
	b := readings(t, 0, l...)
	wantGain(t, b, "r", 1000, span(1510, 2490), [2]int{}, api.OK)
	more := b.Copy()
	enter(t, more, test("r", "a", 1000, 2490, 2490))
	wantGain(t, more, "r", 1000, span(2490, 2490), [2]int{}, api.OK)
	enter(t, b, test("r", "a", 1000, 2491, 2491))
	wantGain(t, b, "r", 1000, api.Span{}, [2]int{510, 511}, api.ErrConflict)
}

// P7.7: corrections that are rounded down and up, and those at the ends of power
// and gain.
func TestCorrect(t *testing.T) {
	for _, x := range []struct{ power, gain, want api.Span }{
		{span(100, 200), span(500, 2000), span(50, 400)},
		{span(0, 0), span(1, 1), span(0, 0)},
		{span(0, 0), span(1000000, 1000000), span(0, 0)},
		{span(0, 1), span(1, 1000000), span(0, 1000)},
		{span(1, 1), span(1000000, 1000000), span(0, 1)},
		{span(1, 1), span(3000, 3000), span(0, 1)},
		{span(2, 2), span(3, 3), span(666, 667)},
		{span(10, 11), span(999, 1001), span(9, 12)},
		{span(999, 1000), span(1000000, 1000000), span(0, 1)},
		{span(1000, 1001), span(1000000, 1000000), span(1, 2)},
		{span(maxPower, maxPower), span(1000, 1000), span(maxPower, maxPower)},
		{span(maxPower, maxPower), span(1001, 1001), span(1072669154, 1072669155)},
		{span(maxPower, maxPower), span(999, 1001), span(1072669154, maxPower)},
		{span(maxPower, maxPower), span(999, 999), span(maxPower, maxPower)},
		{span(maxPower, maxPower), span(1, 1), span(maxPower, maxPower)},
		{span(1073741, 1073742), span(1, 1), span(1073741000, maxPower)},
		{span(0, maxPower), span(1, 1000000), span(0, maxPower)},
		{span(1048576, 1048576), span(1, 1000), span(1048576, 1048576000)},
		{span(maxPower, maxPower), span(1000000, 1000000), span(1073741, 1073742)},
	} {
		if got, e := trace.Correct(x.power, x.gain); got != x.want || e != api.OK {
			t.Errorf("Correct(%v, %v): %v %d, want %v", x.power, x.gain, got, e, x.want)
		}
	}
}

// P7.7: corrections against their definition.
func TestCorrectAgainstDefinition(t *testing.T) {
	n := &noise{state: 7}
	for range 20000 {
		power, gain := span(n.upTo(n.of(9, 9999, maxPower)), 0), span(1+n.upTo(n.of(9, 2000, 999999)), 0)
		power.Hi = min(maxPower, power.Lo+n.upTo(n.of(0, 9, maxPower)))
		gain.Hi = min(1000000, gain.Lo+n.upTo(n.of(0, 9, 1000000)))
		want := span(min(maxPower, floor(1000*power.Lo, gain.Hi)), min(maxPower, ceil(1000*power.Hi, gain.Lo)))
		if got, e := trace.Correct(power, gain); got != want || e != api.OK {
			t.Fatalf("Correct(%v, %v): %v %d, want %v", power, gain, got, e, want)
		}
	}
}

// P7.7: which powers and gains are valid.
func TestCorrectErrors(t *testing.T) {
	of := func(change func(power, gain *api.Span, n int)) func(n int) api.Errno {
		return func(n int) api.Errno {
			power, gain := span(500, 500), span(500, 500)
			change(&power, &gain, n)
			got, e := trace.Correct(power, gain)
			if e != api.OK && got != (api.Span{}) {
				t.Errorf("Correct(%v, %v): %v with the error %d", power, gain, got, e)
			}
			return e
		}
	}
	checkLimits(t, "the least power", 0, 500, of(func(power, gain *api.Span, n int) { power.Lo = n }))
	checkLimits(t, "the greatest power", 500, maxPower, of(func(power, gain *api.Span, n int) { power.Hi = n }))
	checkLimits(t, "the power", 0, maxPower, of(func(power, gain *api.Span, n int) { *power = span(n, n) }))
	checkLimits(t, "the least gain", 1, 500, of(func(power, gain *api.Span, n int) { gain.Lo = n }))
	checkLimits(t, "the greatest gain", 500, 1000000, of(func(power, gain *api.Span, n int) { gain.Hi = n }))
	checkLimits(t, "the gain", 1, 1000000, of(func(power, gain *api.Span, n int) { *gain = span(n, n) }))
}
