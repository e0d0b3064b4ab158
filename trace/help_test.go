package trace_test

import (
	"fmt"
	"math"
	"testing"

	"radome/api"
	"radome/trace"
)

const (
	maxTime  = 4294967296
	maxPower = 1073741824
	day      = 86400
)

// The kinds of calls.
const (
	isRadar = iota
	isStandard
	isTest
	isWithdrawal
	isReinstatement
)

// call is one that becomes an entry, if it returns OK.
type call struct {
	kind     int
	name     string
	drift    int
	standard trace.Standard
	test     trace.Test
}

func radar(name string, drift int) call { return call{kind: isRadar, name: name, drift: drift} }

func withdraw(name string) call { return call{kind: isWithdrawal, name: name} }

func reinstate(name string) call { return call{kind: isReinstatement, name: name} }

// root returns one with a drift.
func root(name string, lo, hi, time, until, drift int) call {
	return made(name, "", lo, hi, time, until, drift)
}

// made returns a standard from another one.
func made(name, parent string, lo, hi, time, until, drift int) call {
	return call{kind: isStandard, standard: trace.Standard{
		Name: name, Parent: parent, Value: span(lo, hi), Time: time, Until: until, Drift: drift,
	}}
}

func test(radar, standard string, time, lo, hi int) call {
	return call{kind: isTest, test: trace.Test{Radar: radar, Standard: standard, Time: time, Reading: span(lo, hi)}}
}

// in does a call in a book.
func (c call) in(b *trace.Book) (int, api.Errno) {
	switch c.kind {
	case isRadar:
		return 0, b.Radar(c.name, c.drift)
	case isStandard:
		return 0, b.Define(c.standard)
	case isTest:
		return b.Test(c.test)
	case isWithdrawal:
		return 0, b.Withdraw(c.name)
	}
	return 0, b.Reinstate(c.name)
}

// bookOf returns a book with some entries.
func bookOf(t *testing.T, l ...call) *trace.Book {
	t.Helper()
	b := trace.New()
	enter(t, b, l...)
	return b
}

func enter(t *testing.T, b *trace.Book, l ...call) {
	t.Helper()
	for i, c := range l {
		if _, e := c.in(b); e != api.OK {
			t.Fatalf("the call %d, %+v: error %d", i, c, e)
		}
	}
}

// example returns the entries of the chapter's examples: those of B, and those
// that follow.
func example() []call {
	return []call{
		radar("r", 2),
		root("a", 1000, 1010, 0, 864000, 1),
		made("b", "a", 500, 500, 86400, 864000, 0),
		test("r", "b", 172800, 998, 1012),
		test("r", "a", 172800, 2500, 2500),
		withdraw("b"),
		reinstate("b"),
		withdraw("a"),
	}
}

func span(lo, hi int) api.Span { return api.Span{Lo: lo, Hi: hi} }

// answerer is a book, or a record.
type answerer interface {
	Value(name string, time int) (api.Span, api.Errno)
	Gain(radar string, time int) (api.Span, [2]int, api.Errno)
	Chain(number int) ([]string, api.Errno)
	Depends(name string) ([]string, []int, api.Errno)
}

// names are those that radars and standards have in books with noise.
func names() []string { return []string{"a", "b", "c", "d", "e", "f", "g", "r", "s", "t"} }

// times are some at which books are asked.
func times() []int { return []int{-1, 0, 1, 86399, 172800, 300001, 864000, 4294967296, 4294967297} }

// spans returns the answers of Value and Gain, without numbers of tests.
func spans(b answerer) []string {
	var l []string
	for _, name := range names() {
		for _, time := range times() {
			value, e := b.Value(name, time)
			gain, _, f := b.Gain(name, time)
			l = append(l, fmt.Sprint(name, " at ", time, ": value ", value, e, ", gain ", gain, f))
		}
	}
	return l
}

// answers returns those of all methods that only ask.
func answers(b answerer) []string {
	l := spans(b)
	for _, name := range names() {
		for _, time := range times() {
			_, at, e := b.Gain(name, time)
			l = append(l, fmt.Sprint(name, " at ", time, ": ", at, e))
		}
		standards, tests, e := b.Depends(name)
		l = append(l, fmt.Sprint("from ", name, ": ", standards, tests, e))
	}
	for number := -1; number < 12; number++ {
		chain, e := b.Chain(number)
		l = append(l, fmt.Sprint("the test ", number, ": ", chain, e))
	}
	return l
}

// wantAnswers checks that two lists of answers are the same.
func wantAnswers(t *testing.T, what string, got, want []string) {
	t.Helper()
	if len(got) != len(want) {
		t.Fatalf("%s: %d answers, want %d", what, len(got), len(want))
	}
	for i, s := range got {
		if s != want[i] {
			t.Fatalf("%s: %s, want %s", what, s, want[i])
		}
	}
}

// extremes are numbers that no argument may be spoiled by.
func extremes() []int {
	return []int{math.MinInt, math.MinInt + 1, -1 << 32, -1, 0, 1, 2, 1000, 1000000, 1000000000, 1 << 32, 1<<32 + 1, math.MaxInt - 1, math.MaxInt}
}

// noise yields numbers that look like random ones, and are always the same.
type noise struct{ state uint64 }

func (n *noise) upTo(most int) int {
	n.state = n.state*6364136223846793005 + 1442695040888963407
	return int(n.state>>33) % (most + 1)
}

func (n *noise) of(l ...int) int { return l[n.upTo(len(l)-1)] }

// name returns one for a standard, sometimes one that none has.
func (n *noise) name() string { return names()[n.upTo(7)] }

// site returns one for a radar, sometimes one that none has.
func (n *noise) site() string { return names()[6+n.upTo(3)] }

// time returns one within about ten days.
func (n *noise) time() int { return n.of(0, 86400*n.upTo(9), n.upTo(864000)) }

// standard returns one that often can be entered.
func (n *noise) standard() call {
	time := n.time()
	s := root(n.name(), 900, 900+n.upTo(200), time, n.of(time+n.upTo(900000), maxTime), n.of(0, 1, n.upTo(50), n.upTo(1000)))
	if n.upTo(9) > 0 {
		s.standard.Parent = n.name()
		s.standard.Value.Lo = n.of(1, 100, 900, 1000)
		s.standard.Value.Hi = s.standard.Value.Lo + n.upTo(20)
	}
	switch n.upTo(30) {
	case 0:
		s.standard.Value.Hi = s.standard.Value.Lo - 1
	case 1:
		s.standard.Value.Hi = n.of(1000001, 1000000, 100000, 100001)
	case 2:
		s.standard.Until = s.standard.Time - 1
	case 3:
		s.standard.Drift = n.of(-1, 1000001)
	case 4:
		s.standard.Name = "A"
	}
	return s
}

// reading returns a test that often can be entered.
func (n *noise) reading() call {
	lo := n.of(1, 500, 900, 1000)
	c := test(n.site(), n.name(), n.time(), lo, lo+n.upTo(n.of(5, 100, 1000)))
	switch n.upTo(30) {
	case 0:
		c.test.Time = n.of(-1, 4294967297)
	case 1:
		c.test.Reading.Lo = n.of(0, -1, 1000000001)
	}
	return c
}

// call returns any one.
func (n *noise) call() call {
	switch n.upTo(9) {
	case 0:
		return radar(n.site(), n.of(0, 1, n.upTo(100), -1, 1000001))
	case 1, 2, 3:
		return n.standard()
	case 4, 5, 6:
		return n.reading()
	case 7:
		return withdraw(n.name())
	}
	return reinstate(n.name())
}

// calls returns some: first those of two radars and two standards, then any.
func (n *noise) calls(count int) []call {
	l := []call{
		radar("r", n.of(0, 1, n.upTo(20))), radar("s", n.upTo(100)),
		root("a", 950+n.upTo(50), 1000+n.upTo(50), 0, 864000, n.of(0, 1, n.upTo(9))),
		made("b", "a", 990+n.upTo(10), 1000+n.upTo(10), n.upTo(86400), 4294967296, n.of(0, 1, n.upTo(9))),
	}
	for range count - len(l) {
		l = append(l, n.call())
	}
	return l
}

// record returns the entries that some calls become.
func (n *noise) record(count int) record {
	var r record
	b := trace.New()
	for _, c := range n.calls(count) {
		if _, e := c.in(b); e == api.OK {
			r = append(r, c)
		}
	}
	return r
}

func wantErr(t *testing.T, what string, got, want api.Errno) {
	t.Helper()
	if got != want {
		t.Errorf("%s: error %d, want %d", what, got, want)
	}
}

// wantValue checks the value of a standard at a time.
func wantValue(t *testing.T, b *trace.Book, name string, time int, want api.Span, wantE api.Errno) {
	t.Helper()
	if got, e := b.Value(name, time); got != want || e != wantE {
		t.Errorf("Value of %s at %d: %v %d, want %v %d", name, time, got, e, want, wantE)
	}
}

// wantGain checks the gain of a radar at a time.
func wantGain(t *testing.T, b *trace.Book, name string, time int, want api.Span, wantAt [2]int, wantE api.Errno) {
	t.Helper()
	if got, at, e := b.Gain(name, time); got != want || at != wantAt || e != wantE {
		t.Errorf("Gain of %s at %d: %v %v %d, want %v %v %d", name, time, got, at, e, want, wantAt, wantE)
	}
}

// wantCall checks what a call returns, and that it is an entry exactly if that
// is OK.
func wantCall(t *testing.T, what string, b *trace.Book, c call, want api.Errno) {
	t.Helper()
	before := b.Entries()
	number, e := c.in(b)
	wantErr(t, what, e, want)
	after := before
	if e == api.OK {
		after++
	} else if number != 0 {
		t.Errorf("%s: the number %d with an error", what, number)
	}
	if b.Entries() != after {
		t.Errorf("%s: %d entries, want %d", what, b.Entries(), after)
	}
}

// checkLimits checks that a number is valid from the least one to the most.
func checkLimits(t *testing.T, what string, least, most int, check func(n int) api.Errno) {
	t.Helper()
	for n, want := range map[int]api.Errno{
		least: api.OK, most: api.OK,
		least - 1: api.ErrRange, most + 1: api.ErrRange, math.MinInt: api.ErrRange, math.MaxInt: api.ErrRange,
	} {
		if e := check(n); e != want {
			t.Errorf("%s %d: error %d, want %d", what, n, e, want)
		}
	}
}
