package mosaic_test

import (
	"fmt"
	"slices"
	"testing"

	"radome/api"
	"radome/mosaic"
)

// P11.2: the numbers of a message.
func TestOfferNumbers(t *testing.T) {
	check := func(change func(m *mosaic.Message)) api.Errno {
		n, m := nodeOf(t, networkS()), messageA(100, 5)
		change(&m)
		isNew, e := n.Offer(m)
		wantSame(t, "it is new", isNew, e == api.OK)
		wantSame(t, "the keys", len(n.Keys()) == 1, e == api.OK)
		return e
	}
	checkLimits(t, "Tilt", 0, maxTilt, func(x int) api.Errno { return check(func(m *mosaic.Message) { m.Key.Tilt = x }) })
	checkLimits(t, "Time", 0, maxTime, func(x int) api.Errno { return check(func(m *mosaic.Message) { m.Key.Time = x }) })
	for p := range 8 {
		checkSpans(t, fmt.Sprint("the value ", p), 0, maxRate, func(x api.Span) api.Errno { return check(func(m *mosaic.Message) { m.Vals[p] = x }) })
	}
	for count := range 12 {
		e := check(func(m *mosaic.Message) { m.Vals = slices.Repeat([]api.Span{pt(5)}, count) })
		want := api.ErrShape
		if count == 8 {
			want = api.OK
		}
		wantErr(t, fmt.Sprint(count, " values"), e, want)
	}
	for _, name := range []string{"", "A", "c", "aa", "a\x00", " a", "ba"} {
		wantErr(t, "the name "+name, check(func(m *mosaic.Message) { m.Key.Name = name }), api.ErrNone)
	}
}

// P11.2: of several errors the one counts that is named first, whether the node
// is full or not.
func TestOfferOrder(t *testing.T) {
	wrongs := []struct {
		change func(m *mosaic.Message)
		want   api.Errno
	}{
		{func(m *mosaic.Message) {}, api.ErrFull},
		{func(m *mosaic.Message) { m.Key.Time = 99 }, api.ErrLate},
		{func(m *mosaic.Message) { m.Vals[7] = span(1, 0) }, api.ErrRange},
		{func(m *mosaic.Message) { m.Vals = m.Vals[1:] }, api.ErrShape},
		{func(m *mosaic.Message) { m.Key.Tilt = -1 }, api.ErrRange},
		{func(m *mosaic.Message) { m.Key.Name = "c" }, api.ErrNone},
	}
	n := nodeOf(t, networkS())
	wantForget(t, n, 100, 0, api.OK)
	for i := range maxMessages {
		offer(t, n, messageA(100+i, 5))
	}
	before := answers(n, 110)
	m := messageA(1000, 5)
	for i, wrong := range wrongs {
		wrong.change(&m)
		wantOffer(t, fmt.Sprint("wrong ", i, " and all ahead of it"), n, m, false, wrong.want)
		alone := messageA(1000, 5)
		wrong.change(&alone)
		wantOffer(t, fmt.Sprint("wrong ", i), n, alone, false, wrong.want)
	}
	wantAnswers(t, "a full node", answers(n, 110), before)
	late := messageA(-1, 5)
	wantOffer(t, "no time at all, which is below the horizon, too", n, late, false, api.ErrRange)
}

// P11.2: a message that the node has, messages with the same key, and keys that
// differ in one field alone.
func TestOfferTwice(t *testing.T) {
	n := nodeOf(t, networkOf("a", "ab"), message("a", 1, 100, pt(5)))
	before := answers(n, 100)
	for range 3 {
		wantOffer(t, "again", n, message("a", 1, 100, pt(5)), false, api.OK)
	}
	wantAnswers(t, "behind the same message", answers(n, 100), before)
	offer(t, n, message("ab", 1, 100, pt(5)), message("a", 2, 100, pt(5)), message("a", 1, 101, pt(5)))
	wantSame(t, "Contested", n.Contested(), []mosaic.Key{})
	offer(t, n, message("a", 1, 100, span(5, 6)), message("a", 1, 100, span(4, 5)), message("a", 2, 100, pt(4)))
	for _, m := range []mosaic.Message{message("a", 1, 100, pt(5)), message("a", 1, 100, span(5, 6)), message("a", 1, 100, span(4, 5)), message("a", 2, 100, pt(5)), message("a", 2, 100, pt(4))} {
		wantOffer(t, "again, contested", n, m, false, api.OK)
	}
	wantSame(t, "Keys", n.Keys(), []mosaic.Key{key("a", 1, 100), key("a", 2, 100), key("ab", 1, 100), key("a", 1, 101)})
	wantSame(t, "Contested", n.Contested(), []mosaic.Key{key("a", 1, 100), key("a", 2, 100)})
}

// P11.2: messages whose values differ at one pixel alone, at one end.
func TestOfferOtherValues(t *testing.T) {
	for p := range 8 {
		for _, change := range []func(x *api.Span){func(x *api.Span) { x.Lo-- }, func(x *api.Span) { x.Hi++ }} {
			n, other := nodeOf(t, networkS(), messageA(100, 5)), messageA(100, 5)
			change(&other.Vals[p])
			offer(t, n, other)
			wantOffer(t, "again", n, other, false, api.OK)
			wantSame(t, "Contested", n.Contested(), []mosaic.Key{key("a", 0, 100)})
		}
	}
}

// P11.2: the 256th message, and the 257th one; all may have the same key.
func TestOfferFull(t *testing.T) {
	for what, one := range map[string]func(i int) mosaic.Message{
		"of different keys": func(i int) mosaic.Message { return messageA(100+i, 5) },
		"of one key":        func(i int) mosaic.Message { return messageA(100, i) },
		"of a few keys":     func(i int) mosaic.Message { return messageA(100+i%3, i) },
	} {
		n := nodeOf(t, networkS())
		for i := range maxMessages {
			offer(t, n, one(i))
		}
		before := answers(n, 150)
		wantOffer(t, "the 257th "+what, n, one(maxMessages), false, api.ErrFull)
		wantOffer(t, "another one", n, messageB(100, 5), false, api.ErrFull)
		for i := range maxMessages {
			wantOffer(t, "one that it has", n, one(i), false, api.OK)
		}
		wantAnswers(t, "a full node", answers(n, 150), before)
		wantSame(t, "Missing", len(missing(t, n)), maxMessages)
		if gone, _ := n.Forget(101); gone == 0 {
			t.Errorf("nothing is gone, %s", what)
		}
		offer(t, n, messageB(101, 5))
	}
}

// P11.2: messages at the horizon, and just below.
func TestOfferLate(t *testing.T) {
	n := nodeOf(t, networkS())
	wantForget(t, n, 100, 0, api.OK)
	wantOffer(t, "just below", n, messageA(99, 5), false, api.ErrLate)
	wantOffer(t, "at the time 0", n, messageA(0, 5), false, api.ErrLate)
	wantOffer(t, "at the horizon", n, messageA(100, 5), true, api.OK)
	wantSame(t, "Keys", n.Keys(), []mosaic.Key{key("a", 0, 100)})
	wantForget(t, n, maxTime, 1, api.OK)
	wantOffer(t, "below the last horizon", n, messageA(maxTime-1, 5), false, api.ErrLate)
	wantOffer(t, "at the last horizon", n, messageA(maxTime, 5), true, api.OK)
}

// P11.6: Forget at, below and above the horizon.
func TestForget(t *testing.T) {
	n := nodeOf(t, networkS(), messageA(0, 5), messageA(99, 5), messageA(100, 5), messageA(100, 6), messageB(100, 5), messageA(101, 5))
	checkLimits(t, "the time", 0, maxTime, func(time int) api.Errno { _, e := n.Copy().Forget(time); return e })
	wantForget(t, n, 0, 0, api.OK)
	wantSame(t, "Horizon", n.Horizon(), 0)
	for _, x := range []struct{ time, want, horizon int }{
		{99, 1, 99}, {99, 0, 99}, {98, 0, 99}, {0, 0, 99}, {100, 1, 100}, {101, 3, 101}, {50, 0, 101}, {102, 1, 102}, {maxTime, 0, maxTime}, {maxTime, 0, maxTime},
	} {
		wantForget(t, n, x.time, x.want, api.OK)
		wantSame(t, "Horizon", n.Horizon(), x.horizon)
	}
	before := answers(n)
	for _, time := range extremes() {
		if time < 0 || time > maxTime {
			wantForget(t, n, time, 0, api.ErrRange)
		}
	}
	wantAnswers(t, "behind what is no time", answers(n), before)
}
