package fold_test

import (
	"testing"

	"radome/api"
	"radome/fold"
	"radome/pulse"
)

// sweep is a valid one of four rays with two gates.
func sweep() api.Sweep {
	x, q := heard(pt(16384), pt(0)), quiet()
	return api.Sweep{
		Site: api.Site{Name: "s", Rose: 1, Gates: 2, Step: 1000},
		Rays: [][]api.Echo{{x, x}, {x, q}, {q, q}, {q, x}},
	}
}

// many returns the same set some times.
func many(count int, s []api.Span) [][]api.Span {
	l := make([][]api.Span, count)
	for i := range l {
		l[i] = s
	}
	return l
}

// dots returns a set of some points.
func dots(count int) []api.Span {
	var s []api.Span
	for i := range count {
		s = append(s, pt(2*i))
	}
	return s
}

// P3.1: the errors of Guesses, in their order.
func TestGuessesErrors(t *testing.T) {
	clear, mixed := heard(pt(0), pt(0)), api.Echo{Kind: api.Mixed, Power: pt(1)}
	unheard := clear
	unheard.Power.Lo = 0
	short := single()
	short.Count = 1
	for what, x := range map[string]struct {
		t    pulse.Train
		x    api.Echo
		most int
		want api.Errno
	}{
		"nothing":                       {pulse.Train{}, api.Echo{}, 0, api.ErrArg},
		"a short train ahead of all":    {short, api.Echo{}, 0, api.ErrRange},
		"no kind of echo":               {single(), api.Echo{}, 0, api.ErrArg},
		"an echo without power":         {single(), unheard, 1000, api.ErrRange},
		"no bound ahead of no speed":    {single(), quiet(), 0, api.ErrRange},
		"a quiet echo":                  {single(), quiet(), 1000, api.ErrEmpty},
		"a mixed echo":                  {single(), mixed, 1000, api.ErrEmpty},
		"a mixed echo, too many turns":  {pulse.Train{Lambda: 10000, Kind: pulse.One, First: 5000, Count: 2}, mixed, 200000, api.ErrEmpty},
		"a clear echo":                  {single(), clear, 1000, api.OK},
		"a clear echo, too many turns":  {pulse.Train{Lambda: 10000, Kind: pulse.One, First: 5000, Count: 2}, clear, 200000, api.ErrMany},
		"a second time with many turns": {pulse.Train{Lambda: 10000, Kind: pulse.Two, First: 200, Second: 5000, Count: 4}, clear, 200000, api.ErrMany},
	} {
		l, e := fold.Guesses(x.t, x.x, x.most)
		wantErr(t, what, e, x.want)
		if e != api.OK && len(l) != 0 {
			t.Errorf("%s: %v", what, l)
		}
	}
	most := 0
	checkLimits(t, limits{"the bound", 1, 200000, func(n int) { most = n }}, func() api.Errno {
		_, e := fold.Guesses(single(), clear, most)
		return e
	})
}

// P3.1: the bounds for which the turns that are allowed just are enough. A
// turn of this train is 1,000 mm/s.
func TestGuessesMany(t *testing.T) {
	x := pulse.Train{Lambda: 10000, Kind: pulse.One, First: 5000, Count: 2}
	for step, greatest := range map[api.Span]int{
		pt(0):               63999,           // 64 turns are 64,000
		pt(16384):           64000 - 250 - 1, // -64 turns and a quarter
		pt(-16384):          64000 - 250 - 1,
		pt(1):               64000 - 1 - 1, // -63,999.98, whose span begins above -64,000 and ends at -63,999
		pt(-1):              64000 - 1 - 1,
		span(-32768, 32767): 64000 - 500 - 1,
	} {
		if _, e := fold.Guesses(x, heard(step, pt(0)), greatest); e != api.OK {
			t.Errorf("%v up to %d: error %d", step, greatest, e)
		}
		if l, e := fold.Guesses(x, heard(step, pt(0)), greatest+1); e != api.ErrMany || len(l) != 0 {
			t.Errorf("%v up to %d: %d guesses, error %d", step, greatest+1, len(l), e)
		}
	}
	if l := mustGuess(t, x, heard(pt(0), pt(0)), 63999); len(l) != 127 {
		t.Errorf("%d guesses", len(l))
	}
	// Only the second time has as many turns; for One there is none.
	y := pulse.Train{Lambda: 10000, Kind: pulse.Turns, First: 1000, Second: 5000, Count: 3}
	_, e := fold.Guesses(y, heard(pt(0), pt(0)), 64000)
	wantErr(t, "the second time", e, api.ErrMany)
	_, e = fold.Guesses(y, heard(pt(0), pt(0)), 63999)
	wantErr(t, "the second time, just not", e, api.OK)
	_, e = fold.Guesses(y, heard(pt(0), pt(1)), 63999)
	wantErr(t, "the second time, moved", e, api.ErrMany)
}

// P3.1: the errors of Union.
func TestUnionErrors(t *testing.T) {
	for what, x := range map[string]struct {
		l    []api.Span
		want api.Errno
	}{
		"as many as possible":       {dots(256), api.OK},
		"too many":                  {dots(257), api.ErrMany},
		"too many, and one too far": {append(dots(256), pt(200001)), api.ErrMany},
		"all":                       {spans(-200000, 200000), api.OK},
		"too high":                  {spans(0, 0, 1, 200001), api.ErrRange},
		"too low":                   {spans(-200001, 0), api.ErrRange},
		"not valid":                 {spans(1, 0), api.ErrRange},
	} {
		l, e := fold.Union(x.l)
		wantErr(t, what, e, x.want)
		if e != api.OK && len(l) != 0 {
			t.Errorf("%s: %v", what, l)
		}
	}
}

// P3.2: the errors of sets, both for Ray and for Turn.
func TestSetErrors(t *testing.T) {
	good := spans(0, 5)
	for what, x := range map[string]struct {
		sets [][]api.Span
		want api.Errno
	}{
		"none":                           {nil, api.OK},
		"empty ones":                     {many(3, nil), api.OK},
		"as many as possible":            {many(200, good), api.OK},
		"too many":                       {many(201, good), api.ErrMany},
		"too many, and one not valid":    {many(201, spans(1, 0)), api.ErrMany},
		"a set of 256":                   {[][]api.Span{good, dots(256)}, api.OK},
		"a set of 257":                   {[][]api.Span{good, dots(257)}, api.ErrMany},
		"a set of 257 that are not good": {[][]api.Span{good, many(1, append(dots(256), pt(999999)))[0]}, api.ErrMany},
		"all":                            {[][]api.Span{spans(-200000, 200000)}, api.OK},
		"both ends":                      {[][]api.Span{spans(-200000, -200000, 200000, 200000)}, api.OK},
		"too low":                        {[][]api.Span{spans(-200001, 0)}, api.ErrRange},
		"too high":                       {[][]api.Span{spans(0, 200001)}, api.ErrRange},
		"not valid":                      {[][]api.Span{spans(1, 0)}, api.ErrRange},
		"that follow":                    {[][]api.Span{spans(0, 1, 2, 3)}, api.OK},
		"that touch":                     {[][]api.Span{spans(0, 1, 1, 3)}, api.ErrOrder},
		"in the other order":             {[][]api.Span{spans(4, 5, 1, 3)}, api.ErrOrder},
		"out of order and range":         {[][]api.Span{spans(4, 5, 1, 200001)}, api.ErrRange},
		"out of order, then range":       {[][]api.Span{spans(4, 5, 1, 3, 1, 0)}, api.ErrOrder},
		"out of range, then order":       {[][]api.Span{spans(5, 4, 1, 3)}, api.ErrRange},
		"order, then range":              {[][]api.Span{good, spans(4, 5, 1, 3), spans(1, 0)}, api.ErrOrder},
		"range, then many":               {[][]api.Span{good, spans(1, 0), dots(257)}, api.ErrRange},
	} {
		l, e := fold.Ray(x.sets, 10, 1)
		wantErr(t, "Ray: "+what, e, x.want)
		both, e2 := fold.Turn([][][]api.Span{many(len(x.sets), good), x.sets}, 10, 1)
		wantErr(t, "Turn: "+what, e2, x.want)
		if e != api.OK && len(l)+len(both) != 0 {
			t.Errorf("%s: %v, %v", what, l, both)
		}
		if x.want != api.OK {
			_, e = fold.Ray(x.sets, -1, 0)
			wantErr(t, "Ray: ahead of jump and bridge: "+what, e, x.want)
			_, e = fold.Turn([][][]api.Span{x.sets}, -1, 0)
			wantErr(t, "Turn: ahead of jump and bridge: "+what, e, x.want)
		}
	}
}

// P3.2: the jump and the bridge.
func TestLinkErrors(t *testing.T) {
	jump, bridge := 0, 1
	for _, l := range []limits{
		{"the jump", 0, 400000, func(n int) { jump, bridge = n, 1 }},
		{"the bridge", 1, 16, func(n int) { jump, bridge = 0, n }},
	} {
		checkLimits(t, l, func() api.Errno {
			_, e := fold.Ray(nil, jump, bridge)
			return e
		})
		checkLimits(t, l, func() api.Errno {
			_, e := fold.Turn(nil, jump, bridge)
			return e
		})
		checkLimits(t, l, func() api.Errno {
			_, e := fold.Unfold(single(), sweep(), 1000, jump, bridge)
			return e
		})
	}
}

// P3.2: the errors of Turn's rays.
func TestTurnErrors(t *testing.T) {
	good, bad := spans(0, 5), spans(1, 0)
	rays := func(count int, sets [][]api.Span) [][][]api.Span {
		l := make([][][]api.Span, count)
		for i := range l {
			l[i] = sets
		}
		return l
	}
	for what, x := range map[string]struct {
		rays [][][]api.Span
		want api.Errno
	}{
		"none":                      {nil, api.OK},
		"without gates":             {rays(7, nil), api.OK},
		"as many as possible":       {rays(360, many(1, good)), api.OK},
		"too many":                  {rays(361, many(1, good)), api.ErrMany},
		"too many, shapes, bad":     {append(rays(360, many(1, bad)), nil), api.ErrMany},
		"shape":                     {[][][]api.Span{many(2, good), many(2, good), many(1, good)}, api.ErrShape},
		"shape, with too many":      {[][][]api.Span{many(201, good), many(1, good)}, api.ErrShape},
		"shape ahead of a bad set":  {[][][]api.Span{many(2, bad), many(3, good)}, api.ErrShape},
		"no gates, then some":       {[][][]api.Span{nil, many(1, good)}, api.ErrShape},
		"some gates, then none":     {[][][]api.Span{many(1, good), nil}, api.ErrShape},
		"too many gates":            {[][][]api.Span{many(201, good), many(201, good)}, api.ErrMany},
		"a bad set, then too many":  {[][][]api.Span{many(1, bad), many(1, dots(257))}, api.ErrRange},
		"too many, then a bad set":  {[][][]api.Span{many(1, dots(257)), many(1, bad)}, api.ErrMany},
		"order, in the second ray":  {[][][]api.Span{many(1, good), many(1, spans(1, 2, 2, 3))}, api.ErrOrder},
		"range, in the second gate": {[][][]api.Span{{good, bad}, {spans(1, 2, 2, 3), good}}, api.ErrRange},
	} {
		l, e := fold.Turn(x.rays, 10, 1)
		wantErr(t, what, e, x.want)
		if e != api.OK && len(l) != 0 || e == api.OK && len(l) != len(x.rays) {
			t.Errorf("%s: %v", what, l)
		}
	}
}

// P3.3: the errors of Unfold, in their order.
func TestUnfoldErrors(t *testing.T) {
	small := pulse.Train{Lambda: 10000, Kind: pulse.One, First: 5000, Count: 2}
	changed := func(change func(s *api.Sweep)) api.Sweep {
		s := sweep()
		change(&s)
		return s
	}
	named := changed(func(s *api.Sweep) { s.Site.Name = "" })
	for what, x := range map[string]struct {
		t                  pulse.Train
		s                  api.Sweep
		most, jump, bridge int
		want               api.Errno
	}{
		"nothing":           {pulse.Train{}, api.Sweep{}, 0, -1, 0, api.ErrArg},
		"the sweep's site":  {single(), named, 0, -1, 0, api.ErrName},
		"the sweep's shape": {single(), changed(func(s *api.Sweep) { s.Rays = s.Rays[1:] }), 0, -1, 0, api.ErrShape},
		"the sweep's echo":  {single(), changed(func(s *api.Sweep) { s.Rays[3][1].Kind = 4 }), 0, -1, 0, api.ErrArg},
		"no bound":          {small, sweep(), 0, 0, 1, api.ErrRange},
		"no jump":           {small, sweep(), 200000, -1, 1, api.ErrRange},
		"no bridge":         {small, sweep(), 200000, 0, 0, api.ErrRange},
		"too many turns":    {small, sweep(), 200000, 0, 1, api.ErrMany},
		"too many turns, at one": {small, changed(func(s *api.Sweep) {
			s.Rays = [][]api.Echo{{quiet(), quiet()}, {quiet(), quiet()}, {quiet(), quiet()}, {quiet(), heard(pt(0), pt(0))}}
		}), 200000, 0, 1, api.ErrMany},
		"too many, but nowhere": {small, changed(func(s *api.Sweep) {
			s.Rays = [][]api.Echo{{quiet(), quiet()}, {quiet(), quiet()}, {quiet(), quiet()}, {quiet(), quiet()}}
		}), 200000, 0, 1, api.OK},
		"nothing wrong": {single(), sweep(), 200000, 0, 1, api.OK},
	} {
		l, e := fold.Unfold(x.t, x.s, x.most, x.jump, x.bridge)
		wantErr(t, what, e, x.want)
		if e != api.OK && len(l) != 0 {
			t.Errorf("%s: %v", what, l)
		}
	}
	most := 0
	checkLimits(t, limits{"the bound", 1, 200000, func(n int) { most = n }}, func() api.Errno {
		_, e := fold.Unfold(single(), sweep(), most, 0, 1)
		return e
	})
}

// P3.4: the errors of Window.
func TestWindowErrors(t *testing.T) {
	step := 0
	checkLimits(t, limits{"the step", 1, 2000, func(n int) { step = n }}, func() api.Errno {
		_, e := fold.Window(single(), 0, step)
		return e
	})
	_, e := fold.Window(pulse.Train{}, 0, 0)
	wantErr(t, "no train", e, api.ErrArg)
	_, e = fold.Window(single(), 1, 0)
	wantErr(t, "no such time, ahead of the step", e, api.ErrArg)
	short := single()
	short.Count = 1
	_, e = fold.Window(short, 2, 0)
	wantErr(t, "a short train, ahead of the time", e, api.ErrRange)
}

// P3.5: the errors of Trips and Profile.
func TestTripErrors(t *testing.T) {
	all := func(count int) []api.Span {
		l := make([]api.Span, count)
		for i := range l {
			l[i] = span(0, 1<<30)
		}
		return l
	}
	var a, b []api.Span
	most, gate, power := 1, 0, 0
	trips := func() api.Errno {
		l, e := fold.Trips(a, b, most)
		if e != api.OK && len(l) != 0 {
			t.Errorf("Trips with the error %d: %v", e, l)
		}
		return e
	}
	profile := func() api.Errno {
		l, e := fold.Profile(a, b, most, gate, power)
		if e != api.OK && len(l) != 0 {
			t.Errorf("Profile with the error %d: %v", e, l)
		}
		return e
	}
	for _, l := range []limits{
		{"how many gates", 1, 800, func(n int) { most = n }},
		{"the first sum", 0, 1 << 30, func(n int) { a[2] = span(0, n) }},
		{"the begin of the first sum", 0, 5, func(n int) { a[2] = span(n, 5) }},
		{"the second sum", 0, 1 << 30, func(n int) { b[1] = span(0, n) }},
		{"the begin of the second sum", 0, 5, func(n int) { b[1] = span(n, 5) }},
	} {
		a, b, most = all(3), all(2), 7
		checkLimits(t, l, trips)
		a, b, most = all(3), all(2), 7
		checkLimits(t, l, profile)
	}
	for count, want := range map[int]api.Errno{0: api.ErrRange, 1: api.OK, 200: api.OK, 201: api.ErrRange} {
		a, b, most = all(count), all(3), 7
		wantErr(t, "first sums", trips(), want)
		wantErr(t, "first sums", profile(), want)
		a, b = b, a
		wantErr(t, "second sums", trips(), want)
		wantErr(t, "second sums", profile(), want)
	}
	a, b, most = all(3), all(2), 7
	checkLimits(t, limits{"the gate", 0, 6, func(n int) { gate = n }}, profile)
	gate = 6
	checkLimits(t, limits{"the power", 0, 1 << 30, func(n int) { power = n }}, profile)
	// What contradicts comes last.
	a, power = []api.Span{pt(1), pt(1), span(5, 4)}, 0
	wantErr(t, "a contradiction that is not valid", trips(), api.ErrRange)
	a = []api.Span{pt(1), pt(1), pt(1)}
	b = []api.Span{pt(1), pt(1)}
	wantErr(t, "a contradiction", trips(), api.ErrConflict)
	wantErr(t, "a contradiction", profile(), api.ErrConflict)
	gate = 7
	wantErr(t, "a contradiction and no such gate", profile(), api.ErrRange)
}
