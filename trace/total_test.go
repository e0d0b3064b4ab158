package trace_test

import (
	"slices"
	"strings"
	"testing"

	"radome/api"
	"radome/trace"
)

// P0: every function ends, without a panic, for all arguments; R2: what is
// refused changes nothing.
func TestAnyArguments(t *testing.T) {
	changes := []func(r, s, x *call, m, n int){
		func(r, s, x *call, m, n int) { r.drift, s.standard.Drift = m, n },
		func(r, s, x *call, m, n int) { s.standard.Value = span(m, n) },
		func(r, s, x *call, m, n int) { s.standard.Time, s.standard.Until = m, n },
		func(r, s, x *call, m, n int) { x.test.Reading = span(m, n) },
		func(r, s, x *call, m, n int) { x.test.Time, s.standard.Value.Hi = m, n },
	}
	start := example()[:5]
	before := answers(bookOf(t, start...))
	for i, change := range changes {
		for _, m := range extremes() {
			for _, n := range extremes() {
				for _, parent := range []string{"", "a", "b", "x"} {
					r, s, x := radar("s", 5), made("c", parent, 1, 1, 86400, 86400, 1), test("r", "a", 86400, 1, 1)
					change(&r, &s, &x, m, n)
					b, l := bookOf(t, start...), record(start)
					for _, c := range []call{r, s, x} {
						number, e := c.in(b)
						wantNumber, wantE := l.answer(c)
						if number != wantNumber || e != wantE {
							t.Fatalf("the change %d with %d and %d, %+v: %d %d, want %d %d", i, m, n, c, number, e, wantNumber, wantE)
						}
						if e == api.OK {
							l = append(l, c)
						}
					}
					if len(l) == len(start) {
						wantAnswers(t, "nothing was entered", answers(b), before)
					}
					ask(b, m, n)
				}
			}
		}
	}
}

// ask calls all that only asks.
func ask(b *trace.Book, m, n int) {
	for _, name := range []string{"a", "c", "r", "s", "", "\xff"} {
		b.Value(name, m)
		b.Gain(name, n)
		b.Depends(name)
	}
	b.Chain(m)
	b.Back(n)
	trace.Correct(span(m, n), span(1, 1))
	trace.Correct(span(1, 1), span(m, n))
	trace.Correct(span(m, n), span(m, n))
}

// P0: names of all kinds.
func TestAnyNames(t *testing.T) {
	for _, name := range []string{"", " ", "\x00", "\xff\xfe", "a\n", "A", "0", "_", strings.Repeat("a", 1<<20), "ä"} {
		b := bookOf(t, example()...)
		before := answers(b)
		wantCall(t, "Radar", b, radar(name, 0), api.ErrName)
		wantCall(t, "Define", b, root(name, 1, 1, 0, 1, 0), api.ErrName)
		wantCall(t, "Test of no radar", b, test(name, "a", 0, 1, 1), api.ErrNone)
		wantCall(t, "Test with no standard", b, test("r", name, 0, 1, 1), api.ErrNone)
		wantCall(t, "Withdraw", b, withdraw(name), api.ErrNone)
		wantCall(t, "Reinstate", b, reinstate(name), api.ErrNone)
		wantValue(t, b, name, 0, api.Span{}, api.ErrNone)
		wantGain(t, b, name, 0, api.Span{}, [2]int{}, api.ErrNone)
		wantDepends(t, b, name, nil, nil, api.ErrNone)
		wantAnswers(t, "behind all that", answers(b), before)
	}
}

// R4: results are new memory, which the caller can change.
func TestNewMemory(t *testing.T) {
	b := bookOf(t, family()...)
	before := answers(b)
	for range 2 {
		chain, _ := b.Chain(3)
		standards, tests, _ := b.Depends("z")
		for i := range chain {
			chain[i] = "spoiled"
		}
		for i := range standards {
			standards[i] = "spoiled"
		}
		clear(tests)
		_ = append(chain[:0:cap(chain)], "x", "x", "x")
		_ = append(standards, "x", "x", "x", "x")
		_ = append(tests, 9, 9, 9, 9)
		wantAnswers(t, "behind changes of results", answers(b), before)
	}
	one, _, _ := b.Depends("z")
	other, _, _ := b.Depends("z")
	clear(one)
	if !slices.Equal(other, []string{"z", "y", "a", "x", "c"}) {
		t.Errorf("two results share memory: %v", other)
	}
}

// R2: what is refused changes neither answers, nor books that come from it.
func TestRefused(t *testing.T) {
	l := example()
	b := bookOf(t, l...)
	before := answers(b)
	for _, c := range []call{
		radar("r", 7), radar("s", -1), root("a", 5, 5, 0, 9, 0), made("c", "b", 1000, 1000, 86400, 86400, 0), made("c", "x", 1, 1, 0, 0, 0),
		test("r", "b", 86400, 1, 1), test("r", "a", -1, 1, 1), withdraw("a"), reinstate("b"), withdraw("x"),
	} {
		if _, e := c.in(b); e == api.OK {
			t.Errorf("%+v is not refused", c)
		}
		wantAnswers(t, "behind a refusal", answers(b), before)
		wantAnswers(t, "a copy behind a refusal", answers(b.Copy()), before)
	}
	enter(t, b, reinstate("a"))
	if number, e := b.Test(l[4].test); number != 2 || e != api.OK {
		t.Errorf("the next test: %d %d", number, e)
	}
	wantGain(t, b, "r", 172800, api.Span{}, [2]int{0, 1}, api.ErrConflict)
}

// A struct that is copied from a book is the same book: neither of both can get
// out of step with the other one.
func TestCopiedStruct(t *testing.T) {
	b := bookOf(t, example()[:4]...)
	same := *b
	enter(t, &same, test("r", "a", 172800, 2500, 2500), withdraw("b"))
	enter(t, b, reinstate("b"), withdraw("a"))
	if b.Entries() != same.Entries() {
		t.Errorf("%d and %d entries", b.Entries(), same.Entries())
	}
	wantAnswers(t, "both", answers(b), answers(&same))
}
