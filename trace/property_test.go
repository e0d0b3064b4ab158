package trace_test

import (
	"math/big"
	"slices"
	"testing"

	"radome/api"
	"radome/trace"
)

// course is something that is true at all times: it changes by the same amount
// each day, but does not become less than 1.
type course struct {
	time  int
	value *big.Rat
	daily *big.Rat
}

func (c course) at(time int) *big.Rat {
	x := new(big.Rat).Mul(c.daily, big.NewRat(int64(time-c.time), day))
	x.Add(x, c.value)
	if one := big.NewRat(1, 1); x.Cmp(one) < 0 {
		return one
	}
	return x
}

// between returns a rational number in a span, often one of its ends.
func (n *noise) between(s api.Span) *big.Rat {
	x := big.NewRat(int64((s.Hi-s.Lo)*n.of(0, 0, 7, 7, n.upTo(7))), 7)
	return x.Add(x, big.NewRat(int64(s.Lo), 1))
}

// course returns one with a value at a time, that drifts by no more than is
// allowed.
func (n *noise) course(time int, value *big.Rat, drift int) course {
	return course{time: time, value: value, daily: n.between(span(-drift, drift))}
}

func isIn(x *big.Rat, s api.Span) bool {
	return x.Cmp(big.NewRat(int64(s.Lo), 1)) >= 0 && x.Cmp(big.NewRat(int64(s.Hi), 1)) <= 0
}

func isBelowOne(x *big.Rat) bool { return x.Cmp(big.NewRat(1, 1)) < 0 }

// around returns the integers next to a rational number.
func around(x *big.Rat) api.Span {
	lo := new(big.Int).Div(x.Num(), x.Denom())
	s := span(int(lo.Int64()), int(lo.Int64()))
	if !x.IsInt() {
		s.Hi++
	}
	return s
}

// thousandths returns the product of a number, and one in thousandths.
func thousandths(x, by *big.Rat) *big.Rat {
	p := new(big.Rat).Mul(x, by)
	return p.Mul(p, big.NewRat(1, 1000))
}

// world is a book, and what is true.
type world struct {
	book   *trace.Book
	values map[string]course
	gains  map[string]course
	list   []trace.Standard
}

// addStandard enters a standard that is as it says.
func (w *world) addStandard(t *testing.T, n *noise, name string) {
	lo := n.of(1, 5, 500, 1000, 1500)
	s := trace.Standard{Name: name, Value: span(lo, lo+n.upTo(n.of(0, 9, 99))), Time: n.upTo(864000), Drift: n.of(0, 1, n.upTo(40), n.upTo(5000))}
	s.Until = s.Time + n.upTo(864000)
	value := n.between(s.Value)
	if len(w.list) > 0 && n.upTo(3) > 0 {
		parent := w.list[n.upTo(len(w.list)-1)]
		s.Parent = parent.Name
		s.Time = parent.Time + n.upTo(parent.Until-parent.Time)
		s.Until = s.Time + n.upTo(864000)
		value = thousandths(w.values[parent.Name].at(s.Time), value)
		if isBelowOne(value) {
			return
		}
	}
	wantErr(t, "Define", w.book.Define(s), api.OK)
	w.values[name] = n.course(s.Time, value, s.Drift)
	w.list = append(w.list, s)
}

// addTest enters a test whose reading has what was true.
func (w *world) addTest(t *testing.T, n *noise, radar string) {
	s := w.list[n.upTo(len(w.list)-1)]
	c := trace.Test{Radar: radar, Standard: s.Name, Time: s.Time + n.upTo(s.Until-s.Time)}
	read := thousandths(w.values[s.Name].at(c.Time), w.gains[radar].at(c.Time))
	if isBelowOne(read) {
		return
	}
	c.Reading = around(read)
	c.Reading = span(max(1, c.Reading.Lo-n.of(0, n.upTo(5))), c.Reading.Hi+n.of(0, n.upTo(5)))
	_, e := w.book.Test(c)
	wantErr(t, "Test", e, api.OK)
}

// check holds all answers against what is true, at some time.
func (w *world) check(t *testing.T, n *noise) (gains int) {
	for _, s := range w.list {
		time := s.Time + n.upTo(s.Until-s.Time)
		got, e := w.book.Value(s.Name, time)
		if truth := w.values[s.Name].at(time); e != api.OK || !isIn(truth, got) {
			t.Fatalf("Value of %s at %d: %v %d, but the truth is %v", s.Name, time, got, e, truth)
		}
	}
	for radar, gain := range w.gains {
		time := n.upTo(2000000)
		got, at, e := w.book.Gain(radar, time)
		truth := gain.at(time)
		if e == api.ErrEmpty {
			continue
		}
		if e != api.OK || !isIn(truth, got) {
			t.Fatalf("Gain of %s at %d: %v %v %d, but the truth is %v", radar, time, got, at, e, truth)
		}
		gains++
		checkCorrected(t, n, truth, got)
	}
	return gains
}

// checkCorrected corrects a power that was measured with a gain of which a span
// is known.
func checkCorrected(t *testing.T, n *noise, truth *big.Rat, gain api.Span) {
	power := n.between(span(0, n.of(9, 9999, maxPower)))
	measured := around(thousandths(power, truth))
	if measured.Hi > maxPower || gain.Hi > 1000000 {
		return
	}
	got, e := trace.Correct(measured, gain)
	if e != api.OK || !isIn(power, got) {
		t.Fatalf("Correct(%v, %v): %v %d, but the truth is %v", measured, gain, got, e, power)
	}
}

// P7.8, G1: whatever is true lies within the answers, and true tests do not
// contradict each other.
func TestTruth(t *testing.T) {
	gains := 0
	for seed := range 400 {
		n := &noise{state: uint64(4000 + seed)}
		w := &world{book: trace.New(), values: map[string]course{}, gains: map[string]course{}}
		for _, radar := range []string{"r", "s"} {
			drift := n.of(0, 1, n.upTo(100), n.upTo(3000))
			wantErr(t, "Radar", w.book.Radar(radar, drift), api.OK)
			w.gains[radar] = n.course(n.upTo(864000), n.between(span(1, n.of(5, 2000, 9000))), drift)
		}
		w.addStandard(t, n, "first")
		for i := range 40 {
			w.addStandard(t, n, letters(i))
			w.addTest(t, n, "r")
			w.addTest(t, n, "s")
		}
		for range 3 {
			gains += w.check(t, n)
		}
	}
	if gains < 2000 {
		t.Errorf("only %d gains were compared", gains)
	}
}

// closer returns a span within another one.
func (n *noise) closer(s api.Span) api.Span {
	lo := s.Lo + n.upTo(min(3, s.Hi-s.Lo))
	return span(lo, s.Hi-n.upTo(min(3, s.Hi-lo)))
}

func within(s, outer api.Span) bool { return outer.Lo <= s.Lo && s.Hi <= outer.Hi }

// G1: from spans within others, and lesser drifts, follow values and gains
// within the others'; and what contradicts each other then still does.
func TestNarrower(t *testing.T) {
	narrower := 0
	for seed := range 150 {
		n := &noise{state: uint64(5000 + seed)}
		r := n.record(80)
		b, same := bookOf(t, r...), trace.New()
		for _, c := range r {
			c.drift -= n.upTo(min(3, c.drift))
			c.standard.Drift -= n.upTo(min(3, c.standard.Drift))
			c.standard.Value, c.test.Reading = n.closer(c.standard.Value), n.closer(c.test.Reading)
			enter(t, same, c)
		}
		for _, name := range names() {
			for _, time := range times() {
				wide, e := b.Value(name, time)
				narrow, f := same.Value(name, time)
				if e != f || !within(narrow, wide) {
					t.Fatalf("Value of %s at %d: %v %d, but with narrower spans %v %d", name, time, wide, e, narrow, f)
				}
				wide, _, e = b.Gain(name, time)
				narrow, _, f = same.Gain(name, time)
				if e != f && (e != api.OK || f != api.ErrConflict) || f == api.OK && !within(narrow, wide) {
					t.Fatalf("Gain of %s at %d: %v %d, but with narrower spans %v %d", name, time, wide, e, narrow, f)
				}
				if narrow != wide && f == api.OK {
					narrower++
				}
			}
		}
	}
	if narrower < 200 {
		t.Errorf("only %d gains were narrower", narrower)
	}
}

// G1: from powers and gains within others follow powers within the others'.
func TestNarrowerPowers(t *testing.T) {
	n := &noise{state: 6}
	for range 5000 {
		power, gain := span(n.upTo(99), 0), span(1+n.upTo(2000), 0)
		power.Hi, gain.Hi = power.Lo+n.upTo(99), gain.Lo+n.upTo(99)
		wide, e := trace.Correct(power, gain)
		narrow, f := trace.Correct(n.closer(power), n.closer(gain))
		if e != api.OK || f != api.OK || !within(narrow, wide) {
			t.Fatalf("Correct(%v, %v): %v %d, but with narrower spans %v %d", power, gain, wide, e, narrow, f)
		}
	}
}

// without returns the entries in which neither a standard, nor what comes from
// it, nor tests of these are named.
func (r record) without(name string) record {
	comes := func(standard string) bool {
		_, found := r.standard(standard)
		return found && slices.Contains(r.chain(standard), name)
	}
	var l record
	for _, c := range r {
		isMark := c.kind == isWithdrawal || c.kind == isReinstatement
		if c.kind == isStandard && comes(c.standard.Name) || c.kind == isTest && comes(c.test.Standard) || isMark && comes(c.name) {
			continue
		}
		l = append(l, c)
	}
	return l
}

// P7.9: what is withdrawn has no effect any more; what is reinstated has all the
// effect that it had.
func TestWithdrawn(t *testing.T) {
	changed := 0
	for seed := range 60 {
		n := &noise{state: uint64(6000 + seed)}
		r := n.record(80)
		b := bookOf(t, r...)
		before := answers(b)
		for _, c := range r.of(isStandard) {
			name := c.standard.Name
			if r.isWithdrawn(name) {
				continue
			}
			enter(t, b, withdraw(name))
			never := bookOf(t, r.without(name)...)
			gone, _, _ := b.Depends(name)
			for _, other := range names() {
				for _, time := range times() {
					got, gotE := b.Value(other, time)
					want, wantE := never.Value(other, time)
					if slices.Contains(gone, other) {
						wantE = api.ErrStale
					}
					if got != want || gotE != wantE {
						t.Fatalf("without %s, Value of %s at %d: %v %d, want %v %d", name, other, time, got, gotE, want, wantE)
					}
					got, _, gotE = b.Gain(other, time)
					want, _, wantE = never.Gain(other, time)
					if got != want || gotE != wantE {
						t.Fatalf("without %s, Gain of %s at %d: %v %d, want %v %d", name, other, time, got, gotE, want, wantE)
					}
				}
			}
			if !slices.Equal(answers(b), before) {
				changed++
			}
			enter(t, b, reinstate(name))
			wantAnswers(t, "reinstated", answers(b), before)
		}
	}
	if changed < 100 {
		t.Errorf("only %d withdrawals changed an answer", changed)
	}
}

// shuffled enters all entries in another order, each one as soon as it is its
// turn and it can be entered; and returns nil if some never can.
func shuffled(n *noise, r record) *trace.Book {
	b, rest := trace.New(), slices.Clone(r)
	for len(rest) > 0 {
		start, before := n.upTo(len(rest)-1), len(rest)
		for i := range rest {
			k := (start + i) % len(rest)
			if _, e := rest[k].in(b); e == api.OK {
				rest = slices.Delete(rest, k, k+1)
				break
			}
		}
		if len(rest) == before {
			return nil
		}
	}
	return b
}

// P7.10: the order of entries says nothing of values and gains.
func TestOrder(t *testing.T) {
	compared := 0
	for seed := range 60 {
		n := &noise{state: uint64(7000 + seed)}
		r := n.record(60)
		want := spans(bookOf(t, r...))
		for range 5 {
			if b := shuffled(n, r); b != nil {
				wantAnswers(t, "another order", spans(b), want)
				compared++
			}
		}
	}
	if compared < 100 {
		t.Errorf("only %d orders were compared", compared)
	}
}

// P7.10: with one test more, a gain lies within what it was, or there is a
// conflict.
func TestOneTestMore(t *testing.T) {
	closer, conflicts := 0, 0
	for seed := range 900 {
		n := &noise{state: uint64(8000 + seed)}
		b := bookOf(t, n.record(60)...)
		before := b.Copy()
		if _, e := n.reading().in(b); e != api.OK {
			continue
		}
		for _, name := range names() {
			for _, time := range times() {
				was, _, e := before.Gain(name, time)
				is, _, f := b.Gain(name, time)
				switch {
				case e == f && is == was, e == api.ErrEmpty:
				case e == api.OK && f == api.OK && within(is, was):
					closer++
				case e == api.OK && f == api.ErrConflict:
					conflicts++
				default:
					t.Fatalf("Gain of %s at %d: %v %d, with one test more %v %d", name, time, was, e, is, f)
				}
			}
		}
	}
	if closer < 50 || conflicts < 20 {
		t.Errorf("%d gains became narrower, and %d conflicts arose", closer, conflicts)
	}
}
