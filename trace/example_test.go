package trace_test

import (
	"slices"
	"testing"

	"radome/api"
	"radome/trace"
)

// P7.1 to P7.7: the examples, in the order of the chapter.
func TestExamples(t *testing.T) {
	l := example()
	b := bookOf(t, l[:3]...)
	wantValue(t, b, "a", 0, span(1000, 1010), api.OK)
	wantValue(t, b, "a", 86400, span(999, 1011), api.OK)
	wantValue(t, b, "a", 86401, span(998, 1012), api.OK)
	wantValue(t, b, "a", 864001, api.Span{}, api.ErrStale)
	wantValue(t, b, "b", 86400, span(499, 506), api.OK)

	if number, e := l[3].in(b); number != 0 || e != api.OK {
		t.Errorf("the first test: %d %d", number, e)
	}
	wantGain(t, b, "r", 172800, span(1972, 2029), [2]int{}, api.OK)
	wantGain(t, b, "r", 259200, span(1970, 2031), [2]int{}, api.OK)
	wantGain(t, b, "r", 0, span(1968, 2033), [2]int{}, api.OK)

	if number, e := l[4].in(b); number != 1 || e != api.OK {
		t.Errorf("the second test: %d %d", number, e)
	}
	wantGain(t, b, "r", 172800, api.Span{}, [2]int{0, 1}, api.ErrConflict)
	standards, tests, e := b.Depends("a")
	if !slices.Equal(standards, []string{"a", "b"}) || !slices.Equal(tests, []int{0, 1}) || e != api.OK {
		t.Errorf("Depends of a: %v %v %d", standards, tests, e)
	}

	enter(t, b, l[5])
	wantGain(t, b, "r", 172800, span(2470, 2506), [2]int{}, api.OK)
	if chain, e := b.Chain(0); !slices.Equal(chain, []string{"b", "a"}) || e != api.OK {
		t.Errorf("Chain of 0: %v %d", chain, e)
	}
	enter(t, b, l[6:]...)
	wantGain(t, b, "r", 0, api.Span{}, [2]int{}, api.ErrEmpty)
	wantValue(t, b, "b", 86400, api.Span{}, api.ErrStale)
	wantCall(t, "Define c from b", b, made("c", "b", 1000, 1000, 86400, 86400, 0), api.ErrStale)

	if b.Entries() != 8 {
		t.Errorf("Entries: %d", b.Entries())
	}
	earlier, e := b.Back(4)
	wantErr(t, "Back of 4", e, api.OK)
	wantGain(t, earlier, "r", 172800, span(1972, 2029), [2]int{}, api.OK)
}

// P7.7: the examples.
func TestCorrectExamples(t *testing.T) {
	for _, x := range []struct{ gain, want api.Span }{
		{span(500, 2000), span(50, 400)}, {span(1000, 1000), span(100, 200)},
	} {
		if got, e := trace.Correct(span(100, 200), x.gain); got != x.want || e != api.OK {
			t.Errorf("Correct with %v: %v %d", x.gain, got, e)
		}
	}
}

// P7.1 to P7.7: all answers against those that follow from the entries by the
// definitions; what is refused leaves all as it was (R2).
func TestAgainstDefinitions(t *testing.T) {
	errors := map[api.Errno]int{}
	gains := map[api.Errno]int{}
	for seed := range 120 {
		n, r, b := &noise{state: uint64(seed)}, record(nil), trace.New()
		for _, c := range n.calls(60) {
			number, e := c.in(b)
			wantNumber, wantE := r.answer(c)
			if number != wantNumber || e != wantE {
				t.Fatalf("%+v behind %+v: %d %d, want %d %d", c, r, number, e, wantNumber, wantE)
			}
			errors[e]++
			if e == api.OK {
				r = append(r, c)
			}
			if b.Entries() != len(r) {
				t.Fatalf("Entries: %d, want %d", b.Entries(), len(r))
			}
			for _, name := range names() {
				_, _, e := r.Gain(name, 172800)
				gains[e]++
			}
			if n.upTo(3) == 0 {
				wantAnswers(t, "the book", answers(b), answers(r))
			}
		}
		wantAnswers(t, "the book", answers(b), answers(r))
	}
	for _, e := range []api.Errno{api.OK, api.ErrName, api.ErrHave, api.ErrRange, api.ErrNone, api.ErrStale, api.ErrState} {
		if errors[e] < 50 {
			t.Errorf("the error %d arises %d times", e, errors[e])
		}
	}
	for _, e := range []api.Errno{api.OK, api.ErrNone, api.ErrEmpty, api.ErrConflict} {
		if gains[e] < 300 {
			t.Errorf("the error %d of Gain arises %d times", e, gains[e])
		}
	}
}
