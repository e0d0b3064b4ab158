package pulse_test

import (
	"math"
	"slices"
	"testing"

	"radome/api"
	"radome/beam"
	"radome/pulse"
)

// limits of a number: what is beyond them is out of range.
type limits struct {
	what        string
	least, most int
	set         func(n int)
}

func checkLimits(t *testing.T, l limits, check func() api.Errno) {
	t.Helper()
	for n, want := range map[int]api.Errno{
		l.least: api.OK, l.most: api.OK,
		l.least - 1: api.ErrRange, l.most + 1: api.ErrRange, math.MinInt: api.ErrRange, math.MaxInt: api.ErrRange,
	} {
		l.set(n)
		if e := check(); e != want {
			t.Errorf("%s %d: error %d, want %d", l.what, n, e, want)
		}
	}
}

// P2.1: each field of a train of each kind, from its least to its greatest
// value.
func TestCheckTrainRanges(t *testing.T) {
	var x pulse.Train
	check := func() api.Errno { return pulse.CheckTrain(x) }
	for _, l := range []struct {
		start pulse.Train
		limits
	}{
		{one(), limits{"One: Lambda", 10000, 1000000, func(n int) { x.Lambda = n }}},
		{two(4), limits{"Two: Lambda", 10000, 1000000, func(n int) { x.Lambda = n }}},
		{turns(3), limits{"Turns: Lambda", 10000, 1000000, func(n int) { x.Lambda = n }}},
		{one(), limits{"One: First", 200, 5000, func(n int) { x.First = n }}},
		{one(), limits{"One: Second", 0, 0, func(n int) { x.Second = n }}},
		{one(), limits{"One: Count", 2, 64, func(n int) { x.Count = n }}},
		{two(4), limits{"Two: First", 200, 1110, func(n int) { x.First = n }}},
		{two(4), limits{"Two: Second", 701, 5000, func(n int) { x.Second = n }}},
		{two(4), limits{"Two: half of Count", 2, 32, func(n int) { x.Count = 2 * n }}},
		{turns(3), limits{"Turns: First", 200, 4999, func(n int) { x.First = n }}},
		{turns(3), limits{"Turns: Second", 201, 5000, func(n int) { x.Second = n }}},
		{turns(3), limits{"Turns: Count", 3, 64, func(n int) { x.Count = n }}},
	} {
		x = l.start
		checkLimits(t, l.limits, check)
	}
	for _, x := range trains() {
		wantErr(t, "a valid train", pulse.CheckTrain(x), api.OK)
	}
}

// P2.1: counts by kind, times that are equal, and the kind ahead of all else.
func TestCheckTrainKinds(t *testing.T) {
	for count := -2; count <= 70; count++ {
		x := one()
		x.Count = count
		for kind, valid := range map[int]bool{
			pulse.One:   count >= 2 && count <= 64,
			pulse.Two:   count >= 4 && count <= 64 && count%2 == 0,
			pulse.Turns: count >= 3 && count <= 64,
		} {
			x.Kind, x.Second = kind, 0
			if kind != pulse.One {
				x.Second = 1001
			}
			if e := pulse.CheckTrain(x); (e == api.OK) != valid || e != api.OK && e != api.ErrRange {
				t.Errorf("kind %d with %d pulses: %d", kind, count, e)
			}
		}
	}
	for _, x := range []pulse.Train{two(4), turns(3)} {
		x.Second = x.First
		wantErr(t, "equal times", pulse.CheckTrain(x), api.ErrRange)
		x.Second = x.First - 1
		wantErr(t, "times in the other order", pulse.CheckTrain(x), api.ErrRange)
		x.Second = 0
		wantErr(t, "no second time", pulse.CheckTrain(x), api.ErrRange)
	}
	for _, kind := range []int{0, 4, -1, math.MinInt, math.MaxInt} {
		x := one()
		x.Kind = kind
		wantErr(t, "another kind", pulse.CheckTrain(x), api.ErrArg)
		wantErr(t, "another kind, and nothing else", pulse.CheckTrain(pulse.Train{Kind: kind}), api.ErrArg)
	}
}

// P2.1: each field of a receiver.
func TestCheckReceiver(t *testing.T) {
	var r pulse.Receiver
	check := func() api.Errno { return pulse.CheckReceiver(r) }
	for _, l := range []limits{
		{"Level", 0, 64, func(n int) { r.Level = n }},
		{"Phase", 0, 4096, func(n int) { r.Phase = n }},
		{"Noise, a point", 0, 1048576, func(n int) { r.Noise = pt(n) }},
		{"Noise.Lo", 0, 500, func(n int) { r.Noise = span(n, 500) }},
		{"Noise.Hi", 500, 1048576, func(n int) { r.Noise = span(500, n) }},
	} {
		r = pulse.Receiver{Level: 3, Phase: 20, Noise: span(7, 9)}
		checkLimits(t, l, check)
	}
	wantErr(t, "noise of any power", pulse.CheckReceiver(pulse.Receiver{Noise: span(0, 1048576)}), api.OK)
}

func clearEcho() api.Echo {
	return api.Echo{
		Kind: api.Clear, Power: span(61, 111), Steps: [2]api.Span{span(108, 112), span(-9, 8)},
		Spread: 20, Ratio: span(2, 427), Match: span(297, 900), Turn: span(-6, 6),
	}
}

func mixedEcho() api.Echo {
	return api.Echo{Kind: api.Mixed, Power: span(61, 111), Spread: 40000, Ratio: span(2, 427), Match: span(297, 900)}
}

// P2.2: each field of an echo of each kind.
func TestCheckEchoRanges(t *testing.T) {
	var x api.Echo
	check := func() api.Errno { return pulse.CheckEcho(x) }
	quiet := api.Echo{Kind: api.Quiet, Power: span(0, 7)}
	for _, start := range []api.Echo{quiet, mixedEcho(), clearEcho()} {
		spans := map[string]*api.Span{"Steps[0]": &x.Steps[0], "Steps[1]": &x.Steps[1], "Turn": &x.Turn}
		for what, p := range spans {
			lo, hi := limits{what + ".Lo", 0, 0, func(n int) { *p = span(n, max(0, n)) }}, limits{what + ".Hi", 0, 0, func(n int) { *p = span(0, n) }}
			if start.Kind == api.Clear {
				lo = limits{what + ".Lo", -32768, 32767, func(n int) { *p = pt(n) }}
				hi = limits{what + ".Hi", -9, 65526, func(n int) { *p = span(-9, n) }}
			}
			x = start
			checkLimits(t, lo, check)
			x = start
			checkLimits(t, hi, check)
		}
		powers := limits{"Power.Lo", 1, 111, func(n int) { x.Power.Lo = n }}
		if start.Kind == api.Quiet {
			powers = limits{"Power.Lo", 0, 0, func(n int) { x.Power = span(n, max(n, 7)) }}
		}
		x = start
		checkLimits(t, powers, check)
		x = start
		checkLimits(t, limits{"Power.Hi", start.Power.Lo, 1073741824, func(n int) { x.Power.Hi = n }}, check)
	}
}

// P2.2: what is said of echoes that surely are ones, and of no others.
func TestCheckEchoCompared(t *testing.T) {
	var x api.Echo
	check := func() api.Errno { return pulse.CheckEcho(x) }
	fields := []limits{
		{"Spread", 0, 65535, func(n int) { x.Spread = n }},
		{"Ratio.Lo", 0, 427, func(n int) { x.Ratio.Lo = n }}, {"Ratio.Hi", 2, 1000000, func(n int) { x.Ratio.Hi = n }},
		{"Match.Lo", 0, 900, func(n int) { x.Match.Lo = n }}, {"Match.Hi", 297, 1000, func(n int) { x.Match.Hi = n }},
	}
	for _, l := range fields {
		for _, x = range []api.Echo{mixedEcho(), clearEcho()} {
			checkLimits(t, l, check)
		}
	}
	for _, l := range fields {
		x = api.Echo{Kind: api.Quiet, Power: span(0, 7)}
		l.set(300)
		wantErr(t, "a quiet echo with "+l.what, check(), api.ErrRange)
	}
	for _, kind := range []int{0, 4, -1, math.MinInt, math.MaxInt} {
		x := clearEcho()
		x.Kind = kind
		wantErr(t, "another kind", pulse.CheckEcho(x), api.ErrArg)
		x.Power = span(-1, -2)
		wantErr(t, "another kind, with another error", pulse.CheckEcho(x), api.ErrArg)
	}
	wantErr(t, "the greatest numbers", pulse.CheckEcho(api.Echo{
		Kind: api.Clear, Power: pt(1 << 30), Ratio: pt(1000000), Match: pt(1000), Spread: 65535,
		Steps: [2]api.Span{span(32767, 98302), span(-32768, 32767)}, Turn: span(32767, 98302),
	}), api.OK)
	turned := clearEcho()
	turned.Turn = span(32767, 98303)
	wantErr(t, "a turn as wide as one", pulse.CheckEcho(turned), api.ErrRange)
}

// sweep is a valid one with two gates on each of four rays.
func sweep() api.Sweep {
	quiet := api.Echo{Kind: api.Quiet}
	return api.Sweep{
		Site: api.Site{Name: "s", Z: 100, Rose: 1, Gates: 2, Step: 1000, Width: 1},
		Rays: [][]api.Echo{{quiet, mixedEcho()}, {clearEcho(), quiet}, {quiet, quiet}, {mixedEcho(), clearEcho()}},
	}
}

// P2.2: a sweep's site, tilt, time, shape and echoes, in this order.
func TestCheckSweep(t *testing.T) {
	unnamed, outside := sweep().Site, sweep().Site
	unnamed.Name, outside.Step = "", beam.MinStep-1
	for _, x := range []struct {
		what   string
		change func(s *api.Sweep)
		want   api.Errno
	}{
		{"a valid sweep", func(s *api.Sweep) {}, api.OK},
		{"the last tilt and time", func(s *api.Sweep) { s.Tilt, s.Time = 256, 1<<32 }, api.OK},
		{"no name", func(s *api.Sweep) { s.Site, s.Tilt, s.Rays = unnamed, -1, nil }, api.ErrName},
		{"a short step", func(s *api.Sweep) { s.Site, s.Rays = outside, nil }, api.ErrRange},
		{"a tilt below 0", func(s *api.Sweep) { s.Tilt, s.Rays = -1, nil }, api.ErrRange},
		{"a tilt above all", func(s *api.Sweep) { s.Tilt, s.Rays = 257, nil }, api.ErrRange},
		{"a time below 0", func(s *api.Sweep) { s.Time, s.Rays = -1, nil }, api.ErrRange},
		{"a time above all", func(s *api.Sweep) { s.Time, s.Rays = 1<<32+1, nil }, api.ErrRange},
		{"no rays", func(s *api.Sweep) { s.Rays = nil }, api.ErrShape},
		{"too few rays", func(s *api.Sweep) { s.Rays = s.Rays[:3] }, api.ErrShape},
		{"too many rays", func(s *api.Sweep) { s.Rays = append(s.Rays, s.Rays[0]) }, api.ErrShape},
		{"too few gates", func(s *api.Sweep) { s.Rays[2] = s.Rays[2][:1] }, api.ErrShape},
		{"too many gates", func(s *api.Sweep) { s.Rays[3] = append(s.Rays[3], s.Rays[3][0]) }, api.ErrShape},
		{"an echo of no kind ahead of a short ray", func(s *api.Sweep) { s.Rays[0][0].Kind, s.Rays[3] = 0, nil }, api.ErrShape},
		{"an echo of no kind, at last", func(s *api.Sweep) { s.Rays[3][1].Kind = 0 }, api.ErrArg},
		{"an echo that is not valid, at first", func(s *api.Sweep) { s.Rays[0][0].Spread = 1 }, api.ErrRange},
		{"both, ray by ray", func(s *api.Sweep) { s.Rays[1][1].Spread, s.Rays[2][0].Kind = 1, 4 }, api.ErrRange},
		{"both, the other way round", func(s *api.Sweep) { s.Rays[1][1].Kind, s.Rays[2][0].Spread = 4, 1 }, api.ErrArg},
	} {
		s := sweep()
		x.change(&s)
		wantErr(t, x.what, pulse.CheckSweep(s), x.want)
	}
}

// P2.2: a sweep of the greatest size.
func TestCheckSweepLarge(t *testing.T) {
	s := sweep()
	s.Site.Rose, s.Site.Gates = 90, 200
	s.Rays = slices.Repeat([][]api.Echo{slices.Repeat([]api.Echo{clearEcho()}, 200)}, 360)
	wantErr(t, "the greatest sweep", pulse.CheckSweep(s), api.OK)
	s.Site.Rose = 89
	wantErr(t, "more rays than the site has", pulse.CheckSweep(s), api.ErrShape)
}

// P2.1: all functions return the error of the train, and then that of the
// receiver, ahead of any other.
func TestErrorsOfTrainsFirst(t *testing.T) {
	other, short := one(), one()
	other.Kind, short.Lambda = 9, 9999
	loud := pulse.Receiver{Level: 65}
	many := make([][]pulse.Sample, 201)
	for want, x := range map[api.Errno]pulse.Train{api.ErrArg: other, api.ErrRange: short} {
		_, e := pulse.Hear(x, loud, nil)
		wantErr(t, "Hear", e, want)
		_, e = pulse.Ray(x, loud, many)
		wantErr(t, "Ray", e, want)
		_, e = pulse.Ray(x, exact(), nil)
		wantErr(t, "Ray of nothing", e, want)
		_, e = pulse.Speed(x, 1, span(2, 1), 99)
		wantErr(t, "Speed", e, want)
		_, _, e = pulse.Fold(x, 1)
		wantErr(t, "Fold", e, want)
		_, e = pulse.Reach(x, 1)
		wantErr(t, "Reach", e, want)
	}
	_, e := pulse.Hear(one(), loud, nil)
	wantErr(t, "Hear by another receiver", e, api.ErrRange)
	_, e = pulse.Ray(one(), loud, many)
	wantErr(t, "Ray by another receiver", e, api.ErrRange)
	_, e = pulse.Ray(one(), loud, nil)
	wantErr(t, "Ray of nothing by another receiver", e, api.ErrRange)
}
