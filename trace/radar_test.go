package trace_test

import (
	"testing"

	"radome/api"
	"radome/trace"
)

// many returns radars, from the first one of some on.
func many(first, count int) []call {
	var l []call
	for i := range count {
		l = append(l, radar(letters(first+i), i))
	}
	return l
}

// unit is a standard with the value 1000 for ever, so that a reading of it is a
// gain in thousandths.
func unit(name string) call { return root(name, 1000, 1000, 0, maxTime, 0) }

// P7.1: a new book has no entries, and each one is another one.
func TestNew(t *testing.T) {
	a, b := trace.New(), trace.New()
	if a == nil || b == nil || a == b || a.Entries() != 0 {
		t.Fatalf("New: %v and %v", a, b)
	}
	enter(t, a, radar("r", 0))
	wantGain(t, b, "r", 0, api.Span{}, [2]int{}, api.ErrNone)
	wantCall(t, "r in another book", b, radar("r", 0), api.OK)
}

// P7.1: names of radars; a standard can have the same one.
func TestRadarNames(t *testing.T) {
	for name, want := range map[string]api.Errno{
		"r": api.OK, "a": api.OK, "r2_": api.OK, "abcdefghijkl": api.OK,
		"": api.ErrName, "abcdefghijklm": api.ErrName, "R": api.ErrName, "2": api.ErrName, "_": api.ErrName, "r r": api.ErrName, "r\x00": api.ErrName,
		"s": api.ErrHave,
	} {
		b := bookOf(t, radar("s", 0), unit("a"))
		wantCall(t, "Radar "+name, b, radar(name, 5), want)
	}
	b := bookOf(t, radar("a", 0), unit("a"), test("a", "a", 5, 3, 4))
	wantGain(t, b, "a", 5, span(3, 4), [2]int{}, api.OK)
	wantValue(t, b, "a", 5, span(1000, 1000), api.OK)
}

// P7.1: drifts, and which error comes first.
func TestRadarErrors(t *testing.T) {
	checkLimits(t, "drift", 0, 1000000, func(n int) api.Errno { return trace.New().Radar("r", n) })
	for what, x := range map[string]struct {
		before []call
		c      call
		want   api.Errno
	}{
		"the name ahead of all":             {many(0, 32), radar("A", -1), api.ErrName},
		"that there is one ahead of number": {many(0, 32), radar("aa", -1), api.ErrHave},
		"how many ahead of the drift":       {many(0, 32), radar("z", -1), api.ErrMany},
		"a 33rd one":                        {many(0, 32), radar("z", 0), api.ErrMany},
		"a 32nd one":                        {many(0, 31), radar("z", 0), api.OK},
		"that there is one ahead of drift":  {many(0, 1), radar("aa", -1), api.ErrHave},
		"the same one again":                {many(0, 1), radar("aa", 0), api.ErrHave},
		"a drift":                           {many(0, 1), radar("z", 1000001), api.ErrRange},
		"32 standards":                      {ladder(64), radar("z", 0), api.OK},
	} {
		wantCall(t, what, bookOf(t, x.before...), x.c, x.want)
	}
}

// P7.3: the ends of all ranges, and the numbers just beyond them.
func TestTestRanges(t *testing.T) {
	of := func(change func(c *trace.Test, n int)) func(n int) api.Errno {
		return func(n int) api.Errno {
			b := bookOf(t, radar("r", 0), unit("a"))
			c := test("r", "a", 500, 500, 500)
			change(&c.test, n)
			number, e := c.in(b)
			if number != 0 || b.Entries() == 3 != (e == api.OK) {
				t.Errorf("%+v: %d, error %d, and %d entries", c, number, e, b.Entries())
			}
			return e
		}
	}
	checkLimits(t, "Time", 0, maxTime, of(func(c *trace.Test, n int) { c.Time = n }))
	checkLimits(t, "Lo", 1, 500, of(func(c *trace.Test, n int) { c.Reading.Lo = n }))
	checkLimits(t, "Hi", 500, 1000000000, of(func(c *trace.Test, n int) { c.Reading.Hi = n }))
	checkLimits(t, "both of Reading", 1, 1000000000, of(func(c *trace.Test, n int) { c.Reading = span(n, n) }))
}

// tests returns so many of them.
func tests(count int) []call {
	l := []call{radar("r", 0), root("a", 1000, 1000, 10, 20, 0)}
	for i := range count {
		l = append(l, test("r", "a", 15, 1000+i, 2000))
	}
	return l
}

// P7.3: which error comes first.
func TestTestErrors(t *testing.T) {
	void := append(tests(0), withdraw("a"))
	for what, x := range map[string]struct {
		before []call
		c      call
		want   api.Errno
	}{
		"no radar ahead of how many":          {tests(512), test("x", "a", -1, 0, 0), api.ErrNone},
		"no standard ahead of how many":       {tests(512), test("r", "x", -1, 0, 0), api.ErrNone},
		"how many ahead of the time":          {tests(512), test("r", "a", -1, 5, 5), api.ErrMany},
		"how many ahead of the reading":       {tests(512), test("r", "a", 15, 0, 0), api.ErrMany},
		"how many ahead of a stale one":       {tests(512), test("r", "a", 5, 5, 5), api.ErrMany},
		"a 513th one":                         {tests(512), test("r", "a", 15, 5, 5), api.ErrMany},
		"neither of both":                     {nil, test("", "", 0, 5, 5), api.ErrNone},
		"a radar as a standard":               {tests(0), test("r", "r", 15, 5, 5), api.ErrNone},
		"a standard as a radar":               {tests(0), test("a", "a", 15, 5, 5), api.ErrNone},
		"no time ahead of a stale one":        {tests(0), test("r", "a", maxTime+1, 5, 5), api.ErrRange},
		"no reading ahead of a stale one":     {tests(0), test("r", "a", 5, 6, 5), api.ErrRange},
		"no reading of one that is void":      {void, test("r", "a", 15, 6, 5), api.ErrRange},
		"too early":                           {tests(0), test("r", "a", 9, 5, 5), api.ErrStale},
		"just in time":                        {tests(0), test("r", "a", 10, 5, 5), api.OK},
		"just not too late":                   {tests(0), test("r", "a", 20, 5, 5), api.OK},
		"too late":                            {tests(0), test("r", "a", 21, 5, 5), api.ErrStale},
		"a standard that is void":             {void, test("r", "a", 15, 5, 5), api.ErrStale},
		"one that is reinstated":              {append(void[:3:3], reinstate("a")), test("r", "a", 15, 5, 5), api.OK},
		"one made from another that is void":  {append(tests(0), made("b", "a", 1000, 1000, 15, 30, 0), withdraw("a")), test("r", "b", 15, 5, 5), api.ErrStale},
		"one that is used longer than others": {append(tests(0), made("b", "a", 1000, 1000, 15, 30, 0)), test("r", "b", 30, 5, 5), api.OK},
	} {
		wantCall(t, what, bookOf(t, x.before...), x.c, x.want)
	}
}

// P7.3: tests are numbered as they are entered, whatever else is, and whether
// they count or not.
func TestTestNumbers(t *testing.T) {
	b := bookOf(t, radar("r", 0), radar("s", 0), unit("a"), unit("b"))
	for i, x := range []struct {
		c      call
		number int
		e      api.Errno
	}{
		{test("r", "a", 5, 1, 2), 0, api.OK}, {test("s", "b", 4, 1, 2), 1, api.OK}, {withdraw("a"), 0, api.OK},
		{test("r", "b", 3, 1, 2), 2, api.OK}, {test("r", "a", 5, 1, 2), 0, api.ErrStale}, {test("r", "b", 3, 1, 2), 3, api.OK},
		{radar("q", 0), 0, api.OK}, {test("q", "x", 5, 1, 2), 0, api.ErrNone}, {reinstate("a"), 0, api.OK},
		{test("q", "a", 6, 0, 2), 0, api.ErrRange}, {test("q", "a", 6, 1, 2), 4, api.OK},
	} {
		if number, e := x.c.in(b); number != x.number || e != x.e {
			t.Errorf("the call %d: %d %d, want %d %d", i, number, e, x.number, x.e)
		}
	}
	full := bookOf(t, tests(511)...)
	if number, e := full.Test(test("r", "a", 15, 1, 1).test); number != 511 || e != api.OK {
		t.Errorf("the 512th test: %d %d", number, e)
	}
}
