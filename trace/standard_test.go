package trace_test

import (
	"math"
	"strings"
	"testing"

	"radome/api"
	"radome/trace"
)

// letters returns a name for each number below 676.
func letters(n int) string { return string([]byte{byte('a' + n/26), byte('a' + n%26)}) }

// ladder returns standards, each of which is made from the one before.
func ladder(count int) []call {
	l := []call{root(letters(0), 1000, 1001, 0, maxTime, 3)}
	for i := 1; i < count; i++ {
		l = append(l, made(letters(i), letters(i-1), 999, 1001, 50000*i, maxTime, i%3))
	}
	return l
}

// P7.2: the ends of all ranges, of roots and of others, and the numbers just
// beyond them.
func TestDefineRanges(t *testing.T) {
	for what, x := range map[string]struct {
		parent string
		most   int
	}{"a root": {"", 1000000}, "one that is none": {"one", 100000}} {
		of := func(change func(s *trace.Standard, n int)) func(n int) api.Errno {
			return func(n int) api.Errno {
				c := made("a", x.parent, 500, 500, 20, 30, 1)
				change(&c.standard, n)
				b := bookOf(t, root("one", 1, 1, 0, maxTime, 0))
				_, e := c.in(b)
				if has := b.Entries() == 2; has != (e == api.OK) {
					t.Errorf("%+v: error %d, but %d entries", c, e, b.Entries())
				}
				return e
			}
		}
		checkLimits(t, what+": Lo", 1, 500, of(func(s *trace.Standard, n int) { s.Value.Lo = n }))
		checkLimits(t, what+": Hi", 500, x.most, of(func(s *trace.Standard, n int) { s.Value.Hi = n }))
		checkLimits(t, what+": both of Value", 1, x.most, of(func(s *trace.Standard, n int) { s.Value = span(n, n) }))
		checkLimits(t, what+": Time", 0, 30, of(func(s *trace.Standard, n int) { s.Time = n }))
		checkLimits(t, what+": Until", 20, maxTime, of(func(s *trace.Standard, n int) { s.Until = n }))
		checkLimits(t, what+": Time and Until", 0, maxTime, of(func(s *trace.Standard, n int) { s.Time, s.Until = n, n }))
		checkLimits(t, what+": Drift", 0, 1000000, of(func(s *trace.Standard, n int) { s.Drift = n }))
	}
}

// P7.2: names of standards, and of parents.
func TestDefineNames(t *testing.T) {
	for name, want := range map[string]api.Errno{
		"b": api.OK, "b9_": api.OK, "abcdefghijkl": api.OK,
		"": api.ErrName, "abcdefghijklm": api.ErrName, "B": api.ErrName, "9b": api.ErrName, "_b": api.ErrName, "b b": api.ErrName, "b\n": api.ErrName, "\xffb": api.ErrName,
		"a": api.ErrHave,
	} {
		b := bookOf(t, root("a", 5, 6, 0, 9, 0))
		wantCall(t, "Define "+name, b, root(name, 1, 1, 0, 9, 0), want)
		wantCall(t, "Define "+name+" from a", bookOf(t, root("a", 5, 6, 0, 9, 0)), made(name, "a", 1, 1, 0, 9, 0), want)
	}
	for parent, want := range map[string]api.Errno{
		"": api.OK, "a": api.OK, "r": api.ErrNone, "b": api.ErrNone, "A": api.ErrNone, "a ": api.ErrNone, strings.Repeat("a", 5000): api.ErrNone,
	} {
		b := bookOf(t, radar("r", 0), root("a", 5, 6, 0, 9, 0))
		wantCall(t, "Define b from "+parent, b, made("b", parent, 1, 1, 0, 9, 0), want)
	}
}

// P7.2: which error comes first.
func TestDefineErrors(t *testing.T) {
	full := ladder(64)
	a := root("a", 1000000, 1000000, 10, 20, 0)
	great := []call{a, made("c", "a", 100000, 100000, 15, 20, 0), withdraw("c"), root("d", 1, 1, 0, 1, 0), withdraw("d")}
	for what, x := range map[string]struct {
		before []call
		c      call
		want   api.Errno
	}{
		"the name ahead of all":                    {full, made("A", "A", 0, 0, -1, -1, -1), api.ErrName},
		"that there is one ahead of how many":      {full, made(letters(63), "A", 0, 0, -1, -1, -1), api.ErrHave},
		"how many ahead of ranges":                 {full, made("a", "A", 0, 0, -1, -1, -1), api.ErrMany},
		"a 65th root":                              {full, root("a", 1, 1, 0, 1, 0), api.ErrMany},
		"a 65th one that is none":                  {full, made("a", letters(0), 1, 1, 0, 1, 0), api.ErrMany},
		"the 64th one":                             {full[:63], root("a", 1, 1, 0, 1, 0), api.OK},
		"that there is one ahead of ranges":        {great, root("a", 0, 0, 0, 0, 0), api.ErrHave},
		"ranges ahead of no parent":                {great, made("b", "x", 5, 4, 15, 15, 0), api.ErrRange},
		"ranges ahead of a parent that is void":    {great, made("b", "c", 1, 100001, 15, 15, 0), api.ErrRange},
		"a value of a root for one that is none":   {great, made("b", "a", 100001, 100001, 15, 15, 0), api.ErrRange},
		"no parent":                                {great, made("b", "x", 1, 1, 15, 15, 0), api.ErrNone},
		"its own parent":                           {great, made("b", "b", 1, 1, 15, 15, 0), api.ErrNone},
		"a void parent ahead of too great a value": {great, made("b", "c", 100000, 100000, 15, 15, 0), api.ErrStale},
		"too early ahead of too great a value":     {great[:2], made("b", "c", 100000, 100000, 14, 15, 0), api.ErrStale},
		"too late ahead of too great a value":      {great[:2], made("b", "c", 100000, 100000, 21, 21, 0), api.ErrStale},
		"too great a value":                        {great[:2], made("b", "c", 1, 10001, 15, 15, 0), api.ErrOver},
		"the greatest value":                       {great[:2], made("b", "c", 1, 10000, 15, 15, 0), api.OK},
		"one that is withdrawn, again":             {great, root("d", 1, 1, 0, 1, 0), api.ErrHave},
		"one that is void, again":                  {append(great[:2:2], withdraw("a")), made("c", "a", 1, 1, 15, 15, 0), api.ErrHave},
	} {
		wantCall(t, what, bookOf(t, x.before...), x.c, x.want)
	}
}

// P7.2: parents at their Time and their Until, and one second beyond; the
// standard itself can be used for longer than its parent.
func TestParentsInTime(t *testing.T) {
	for time, want := range map[int]api.Errno{
		0: api.ErrStale, 99: api.ErrStale, 100: api.OK, 150: api.OK, 200: api.OK, 201: api.ErrStale, maxTime: api.ErrStale,
	} {
		for _, until := range []int{time, maxTime} {
			b := bookOf(t, root("a", 7, 8, 100, 200, 1))
			wantCall(t, "one in time", b, made("b", "a", 1000, 1000, time, until, 0), want)
			if want == api.OK {
				wantValue(t, b, "b", until, span(7-min(1, time-100), 8+min(1, time-100)), api.OK)
			}
		}
	}
}

// P7.2: parents that are void: withdrawn themselves, or those from which they
// come, or both.
func TestVoidParents(t *testing.T) {
	b := bookOf(t, ladder(4)...)
	c := made("x", letters(3), 1000, 1000, 200000, 200000, 0)
	for _, step := range []struct {
		c    call
		want api.Errno
	}{
		{withdraw(letters(0)), api.ErrStale}, {withdraw(letters(3)), api.ErrStale}, {withdraw(letters(2)), api.ErrStale},
		{reinstate(letters(0)), api.ErrStale}, {reinstate(letters(3)), api.ErrStale}, {reinstate(letters(2)), api.OK},
	} {
		enter(t, b, step.c)
		wantCall(t, "one from a long chain", b, c, step.want)
	}
}

// P7.2, P7.5: values when they were made at 10^9, and just above.
func TestGreatestValues(t *testing.T) {
	for what, x := range map[string]struct {
		parents []call
		ratio   int
		want    api.Errno
		value   int
	}{
		"10^9":                 {[]call{root("a", 1, 1000000, 0, 9, 0), made("b", "a", 1, 100000, 0, 9, 0)}, 10000, api.OK, 1000000000},
		"10^9 + 1":             {[]call{root("a", 1, 999001, 0, 9, 0), made("c", "a", 1, 100000, 0, 9, 0), made("b", "c", 1, 10000, 0, 9, 0)}, 1001, api.ErrOver, 0},
		"10^9 and a part of 1": {[]call{root("a", 1, 999900, 0, 9, 0), made("b", "a", 1, 100000, 0, 9, 1)}, 10001, api.ErrOver, 0},
		"just below that":      {[]call{root("a", 1, 999900, 0, 9, 0), made("b", "a", 1, 100000, 0, 9, 0)}, 10001, api.OK, 999999990},
		"10^9 and much more":   {[]call{root("a", 1, 1000000, 0, 9, 0), made("b", "a", 1, 100000, 0, 9, 0)}, 100000, api.ErrOver, 0},
		"10^9 by another one":  {[]call{root("a", 1, 1000000, 0, 9, 1000000), made("b", "a", 1, 99999, 0, 9, 0)}, 10000, api.OK, 999990000},
	} {
		b := bookOf(t, x.parents...)
		wantCall(t, what, b, made("x", "b", 1, x.ratio, 1, maxTime, 1000000), x.want)
		if x.want == api.OK {
			wantValue(t, b, "x", 1, span(1, x.value), api.OK)
			wantValue(t, b, "x", maxTime, span(1, x.value+49710269619), api.OK) // above 10^9 only later
		}
	}
	b := bookOf(t, root("a", 1000000, 1000000, 0, maxTime, 1000000))
	wantCall(t, "a parent that became too great", b, made("b", "a", 1, 100000, maxTime, maxTime, 0), api.ErrOver)
	wantCall(t, "a part of it", b, made("b", "a", 1, 1, maxTime, maxTime, 0), api.OK)
	wantValue(t, b, "b", maxTime, span(1, 49711270), api.OK)
}

// P7.2, P7.5: values when they were made, down and up, but at least 1.
func TestMadeValues(t *testing.T) {
	for _, x := range []struct{ parent, ratio, want api.Span }{
		{span(1000, 1010), span(500, 500), span(500, 505)},
		{span(999, 1011), span(500, 500), span(499, 506)},
		{span(1, 1), span(1, 1), span(1, 1)},
		{span(999, 1000), span(1, 1), span(1, 1)},
		{span(1000, 1001), span(1, 1), span(1, 2)},
		{span(1999, 2000), span(1, 1), span(1, 2)},
		{span(2000, 2001), span(1, 1), span(2, 3)},
		{span(7, 7), span(999, 1001), span(6, 8)},
		{span(7, 7), span(1000, 1000), span(7, 7)},
		{span(3, 5), span(2, 100000), span(1, 500)},
		{span(1, 1000000), span(1, 100000), span(1, 100000000)},
	} {
		b := bookOf(t, root("a", x.parent.Lo, x.parent.Hi, 5, 5, 9), made("b", "a", x.ratio.Lo, x.ratio.Hi, 5, 5, 9))
		wantValue(t, b, "a", 5, x.parent, api.OK)
		wantValue(t, b, "b", 5, x.want, api.OK)
	}
}

// P7.5: drifts of 0, and of parts of a day, rounded up; values that would become
// less than 1.
func TestDrifts(t *testing.T) {
	for _, x := range []struct {
		value                api.Span
		drift, seconds, more int
	}{
		{span(1000, 1010), 0, 0, 0}, {span(1000, 1010), 0, 4294967000, 0},
		{span(1000, 1010), 1, 0, 0}, {span(1000, 1010), 1, 1, 1}, {span(1000, 1010), 1, 86399, 1},
		{span(1000, 1010), 1, 86400, 1}, {span(1000, 1010), 1, 86401, 2}, {span(1000, 1010), 1, 172800, 2},
		{span(1000, 1010), 2, 43200, 1}, {span(1000, 1010), 2, 43201, 2}, {span(1000, 1010), 3, 28800, 1},
		{span(1000, 1010), 86400, 77, 77}, {span(1000, 1010), 86399, 77, 77}, {span(1000, 1010), 86401, 77, 78},
		{span(1000, 1010), 86400, 999, 999}, {span(1000, 1010), 86400, 1000, 1000}, {span(1000, 1010), 86400, 5000, 5000},
		{span(1, 1), 1, 1, 1}, {span(1, 1), 1000000, 86400, 1000000}, {span(1000000, 1000000), 1000000, 4294967000, 49710266204},
	} {
		b := bookOf(t, root("a", x.value.Lo, x.value.Hi, 200, maxTime, x.drift))
		wantValue(t, b, "a", 200+x.seconds, span(max(1, x.value.Lo-x.more), x.value.Hi+x.more), api.OK)
	}
}

// P7.5: which error of Value comes first; standards at their Time, at their
// Until, and one second beyond.
func TestValueErrors(t *testing.T) {
	b := bookOf(t, radar("r", 0), root("a", 10, 10, 100, 200, 0), made("b", "a", 1000, 1000, 150, maxTime, 0), root("c", 1, 1, 0, maxTime, 0), withdraw("c"))
	for _, x := range []struct {
		name string
		time int
		want api.Errno
	}{
		{"x", 150, api.ErrNone}, {"", 150, api.ErrNone}, {"r", 150, api.ErrNone}, {"x", -1, api.ErrNone}, {"A", maxTime + 1, api.ErrNone},
		{"a", 99, api.ErrStale}, {"a", 100, api.OK}, {"a", 200, api.OK}, {"a", 201, api.ErrStale}, {"a", -1, api.ErrStale},
		{"a", math.MinInt, api.ErrStale}, {"a", math.MaxInt, api.ErrStale},
		{"b", 149, api.ErrStale}, {"b", 150, api.OK}, {"b", 201, api.OK}, {"b", maxTime, api.OK}, {"b", maxTime + 1, api.ErrStale},
		{"c", 0, api.ErrStale}, {"c", -1, api.ErrStale}, {"c", maxTime, api.ErrStale},
	} {
		want := api.Span{}
		if x.want == api.OK {
			want = span(10, 10)
		}
		wantValue(t, b, x.name, x.time, want, x.want)
	}
}

// P7.5: all standards of a long chain, as the definitions say.
func TestLongChainValues(t *testing.T) {
	l := ladder(64)
	b := bookOf(t, l...)
	for i := range l {
		for _, time := range []int{50000*i - 1, 50000 * i, 50000*i + 1, 3150000, 3236400, maxTime} {
			want, e := record(l).Value(letters(i), time)
			wantValue(t, b, letters(i), time, want, e)
		}
	}
	wantValue(t, b, letters(63), 3150000, span(872, 1192), api.OK)
}

// P7.4: which error comes first, and standards that are withdrawn or reinstated
// twice.
func TestWithdrawErrors(t *testing.T) {
	b := bookOf(t, radar("r", 0), root("a", 1, 1, 0, 9, 0), made("b", "a", 1, 1, 0, 9, 0))
	for i, x := range []struct {
		c    call
		want api.Errno
	}{
		{withdraw("x"), api.ErrNone}, {reinstate("x"), api.ErrNone}, {withdraw(""), api.ErrNone}, {reinstate("r"), api.ErrNone}, {withdraw("A"), api.ErrNone},
		{reinstate("a"), api.ErrState}, {withdraw("a"), api.OK}, {withdraw("a"), api.ErrState}, {reinstate("b"), api.ErrState},
		{withdraw("b"), api.OK}, {withdraw("b"), api.ErrState}, {withdraw("a"), api.ErrState},
		{reinstate("a"), api.OK}, {reinstate("a"), api.ErrState}, {withdraw("b"), api.ErrState},
		{reinstate("b"), api.OK}, {reinstate("b"), api.ErrState}, {withdraw("b"), api.OK}, {reinstate("b"), api.OK},
	} {
		wantCall(t, "the step "+letters(i), b, x.c, x.want)
	}
	wantValue(t, b, "b", 9, span(1, 1), api.OK)
}

// P7.4, P7.5: a standard is void as long as any one in its chain is withdrawn.
func TestVoid(t *testing.T) {
	b := bookOf(t, append(ladder(5), made("side", letters(1), 1000, 1000, 50000, maxTime, 0))...)
	void := func(names ...string) {
		t.Helper()
		isVoid := map[string]bool{}
		for _, name := range names {
			isVoid[name] = true
		}
		for _, name := range []string{letters(0), letters(1), letters(2), letters(3), letters(4), "side"} {
			if _, e := b.Value(name, 400000); (e == api.ErrStale) != isVoid[name] {
				t.Errorf("Value of %s: error %d, with %v void", name, e, names)
			}
		}
	}
	void()
	enter(t, b, withdraw(letters(2)))
	void(letters(2), letters(3), letters(4))
	enter(t, b, withdraw(letters(4)))
	void(letters(2), letters(3), letters(4))
	enter(t, b, withdraw(letters(1)))
	void(letters(1), letters(2), letters(3), letters(4), "side")
	enter(t, b, reinstate(letters(2)))
	void(letters(1), letters(2), letters(3), letters(4), "side")
	enter(t, b, reinstate(letters(1)))
	void(letters(4))
	enter(t, b, withdraw("side"))
	void(letters(4), "side")
	enter(t, b, reinstate(letters(4)), withdraw(letters(0)))
	void(letters(0), letters(1), letters(2), letters(3), letters(4), "side")
	enter(t, b, reinstate("side"), reinstate(letters(0)))
	void()
}
