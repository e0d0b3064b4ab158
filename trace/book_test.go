package trace_test

import (
	"math"
	"slices"
	"testing"

	"radome/api"
	"radome/trace"
)

// none are books that no function of the package made.
func none() []*trace.Book { return []*trace.Book{nil, {}, new(trace.Book)} }

// R3: books that are nil, or not made by New: ErrNil ahead of all other errors,
// and zero values.
func TestNoBook(t *testing.T) {
	for _, b := range none() {
		for _, c := range append(example(), radar("", -1), root("", 0, 0, -1, -1, -1), test("", "", -1, 0, 0), withdraw(""), reinstate("")) {
			number, e := c.in(b)
			if number != 0 || e != api.ErrNil {
				t.Errorf("%+v in no book: %d %d", c, number, e)
			}
		}
		for _, name := range []string{"a", "r", ""} {
			for _, n := range extremes() {
				wantValue(t, b, name, n, api.Span{}, api.ErrNil)
				wantGain(t, b, name, n, api.Span{}, [2]int{}, api.ErrNil)
				wantChain(t, b, n, nil, api.ErrNil)
				if earlier, e := b.Back(n); earlier != nil || e != api.ErrNil {
					t.Errorf("Back of %d of no book: %v %d", n, earlier, e)
				}
			}
			wantDepends(t, b, name, nil, nil, api.ErrNil)
		}
		if b.Entries() != 0 || b.Copy() != nil {
			t.Errorf("no book: %d entries, and the copy %v", b.Entries(), b.Copy())
		}
	}
}

// P7.7: Back to 0 entries, to all, and beyond.
func TestBackRanges(t *testing.T) {
	b := bookOf(t, example()...)
	for _, n := range []int{-1, 9, math.MinInt, math.MaxInt} {
		if earlier, e := b.Back(n); earlier != nil || e != api.ErrRange {
			t.Errorf("Back of %d: %v %d", n, earlier, e)
		}
	}
	for n := range 9 {
		earlier, e := b.Back(n)
		if e != api.OK || earlier == nil || earlier.Entries() != n {
			t.Fatalf("Back of %d: %v %d", n, earlier, e)
		}
		wantAnswers(t, "Back", answers(earlier), answers(record(example()[:n])))
	}
	empty, e := trace.New().Back(0)
	if e != api.OK || empty == nil || empty.Entries() != 0 {
		t.Errorf("Back of 0 of an empty book: %v %d", empty, e)
	}
	wantCall(t, "the first entry of it", empty, radar("r", 1), api.OK)
	if earlier, e := trace.New().Back(1); earlier != nil || e != api.ErrRange {
		t.Errorf("Back of 1 of an empty book: %v %d", earlier, e)
	}
}

// P7.7, P7.12: Back to each number of entries has the answers that there were
// then; a copy has those that there are; the same calls lead to the same.
func TestHistory(t *testing.T) {
	for seed := range 25 {
		n, b := &noise{state: uint64(2000 + seed)}, trace.New()
		l := n.calls(60)
		then := [][]string{answers(b)}
		for _, c := range l {
			if _, e := c.in(b); e == api.OK {
				then = append(then, answers(b))
			}
		}
		if b.Entries() != len(then)-1 {
			t.Fatalf("Entries: %d, want %d", b.Entries(), len(then)-1)
		}
		again := trace.New()
		for _, c := range l {
			c.in(again)
		}
		wantAnswers(t, "the same calls", answers(again), answers(b))
		wantAnswers(t, "Copy", answers(b.Copy()), answers(b))
		for entries, want := range then {
			earlier, e := b.Back(entries)
			if e != api.OK || earlier.Entries() != entries {
				t.Fatalf("Back of %d: error %d", entries, e)
			}
			wantAnswers(t, "Back", answers(earlier), want)
			first, e := earlier.Copy().Back(entries / 2)
			wantErr(t, "Back of a copy of Back", e, api.OK)
			wantAnswers(t, "Back of a copy of Back", answers(first), then[entries/2])
		}
		wantAnswers(t, "the book behind all that", answers(b), then[len(then)-1])
	}
}

// P7.7: books that were copied, or gone back to, and the first one, are changed
// one behind the other, each in its own way.
func TestIndependence(t *testing.T) {
	for seed := range 25 {
		n := &noise{state: uint64(3000 + seed)}
		r := n.record(40)
		b := bookOf(t, r...)
		half, e := b.Back(len(r) / 2)
		wantErr(t, "Back", e, api.OK)
		books := []*trace.Book{b, b.Copy(), half, b.Copy().Copy(), half.Copy()}
		records := []record{slices.Clone(r), slices.Clone(r), slices.Clone(r[:len(r)/2]), slices.Clone(r), slices.Clone(r[:len(r)/2])}
		for range 150 {
			i, c := n.upTo(len(books)-1), n.call()
			if _, e := c.in(books[i]); e == api.OK {
				records[i] = append(records[i], c)
			}
		}
		for i := range books {
			if books[i].Entries() != len(records[i]) {
				t.Fatalf("the book %d has %d entries, want %d", i, books[i].Entries(), len(records[i]))
			}
			wantAnswers(t, "a book on its own", answers(books[i]), answers(records[i]))
			wantAnswers(t, "its copy", answers(books[i].Copy()), answers(records[i]))
		}
	}
}

// P7.7: withdrawals of one book change no other one.
func TestIndependentWithdrawals(t *testing.T) {
	b := bookOf(t, example()[:4]...)
	same := b.Copy()
	earlier, _ := b.Back(4)
	enter(t, same, withdraw("a"))
	enter(t, earlier, withdraw("b"))
	wantGain(t, b, "r", 172800, span(1972, 2029), [2]int{}, api.OK)
	wantGain(t, same, "r", 172800, api.Span{}, [2]int{}, api.ErrEmpty)
	wantValue(t, earlier, "a", 0, span(1000, 1010), api.OK)
	wantValue(t, same, "a", 0, api.Span{}, api.ErrStale)
	enter(t, b, withdraw("a"))
	enter(t, same, reinstate("a"))
	wantGain(t, b, "r", 172800, api.Span{}, [2]int{}, api.ErrEmpty)
	wantGain(t, same, "r", 172800, span(1972, 2029), [2]int{}, api.OK)
	if b.Entries() != 5 || same.Entries() != 6 || earlier.Entries() != 5 {
		t.Errorf("entries: %d, %d and %d", b.Entries(), same.Entries(), earlier.Entries())
	}
}

// full returns as many entries as there may be.
func full() []call {
	l := append(tests(3), many(0, 20)...)
	for len(l) < 2000 {
		if len(l)%2 == 0 {
			l = append(l, withdraw("a"), reinstate("a"))
		} else {
			l = append(l, radar("odd", 0))
		}
	}
	return l
}

// P7.1 to P7.4, P7.7: a book that is full of entries has no room for one more,
// whatever it is; one with an entry less has.
func TestFullBooks(t *testing.T) {
	l := full()
	b := bookOf(t, l...)
	if len(l) != 2000 || b.Entries() != 2000 {
		t.Fatalf("%d entries of %d", b.Entries(), len(l))
	}
	more := []call{
		radar("z", 0), root("z", 1, 1, 0, 0, 0), made("z", "a", 1, 1, 15, 15, 0), test("r", "a", 15, 5, 5), withdraw("a"),
	}
	worse := []call{
		reinstate("a"), reinstate("x"), withdraw("x"), radar("r", 0), radar("A", -1), root("a", 1, 1, 0, 0, 0), root("A", 0, 0, 0, 0, 0), test("x", "x", -1, 0, 0), test("r", "a", -1, 5, 5),
	}
	same := b.Copy()
	for _, c := range append(slices.Clone(more), worse...) {
		wantCall(t, "one more entry", b, c, api.ErrFull)
		wantCall(t, "one more entry of a copy", same, c, api.ErrFull)
	}
	wantGain(t, b, "r", 15, span(1002, 2000), [2]int{}, api.OK)
	for i, c := range more {
		earlier, e := b.Back(1999)
		wantErr(t, "Back of 1999", e, api.OK)
		if i == 4 {
			c = reinstate("a") // withdrawn by the entry 1998
		}
		if c.kind == isTest || c.standard.Parent != "" {
			earlier, _ = b.Back(1998)
			enter(t, earlier, radar("last", 0))
		}
		wantCall(t, "the last entry", earlier, c, api.OK)
		wantCall(t, "one more", earlier, radar("y", 0), api.ErrFull)
	}
}

// P7.1 to P7.3: a book that is full of radars, standards and tests can still
// withdraw, and reinstate.
func TestFullOfAll(t *testing.T) {
	l := append(many(0, 32), ladder(64)...)
	for i := range 512 {
		l = append(l, test(letters(i%32), letters(i%64), 3150000+i, 1000, 1000000))
	}
	b := bookOf(t, l...)
	wantCall(t, "one more radar", b, radar("z", 0), api.ErrMany)
	wantCall(t, "one more standard", b, root("z", 1, 1, 0, 0, 0), api.ErrMany)
	wantCall(t, "one more test", b, test("aa", "aa", 3150000, 1, 1), api.ErrMany)
	wantCall(t, "Withdraw", b, withdraw("aa"), api.OK)
	wantGain(t, b, "aa", 0, api.Span{}, [2]int{}, api.ErrEmpty)
	wantCall(t, "Reinstate", b, reinstate("aa"), api.OK)
	for i := range 32 {
		want, at, e := record(l).Gain(letters(i), 3000000)
		wantGain(t, b.Copy(), letters(i), 3000000, want, at, e)
	}
}
