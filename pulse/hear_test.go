package pulse_test

import (
	"slices"
	"testing"

	"radome/api"
	"radome/pulse"
)

// example has the samples of the chapter's first example.
func example() []pulse.Sample { return phased(10, 5, 0, 100, 220, 330) }

// firstEcho is the echo of the chapter's first example.
func firstEcho() api.Echo {
	return api.Echo{Kind: api.Clear, Power: pt(100), Steps: [2]api.Span{pt(110)}, Spread: 20, Ratio: pt(250), Match: pt(1000)}
}

func mustHear(t *testing.T, x pulse.Train, r pulse.Receiver, l []pulse.Sample) api.Echo {
	t.Helper()
	echo, e := pulse.Hear(x, r, l)
	if e != api.OK {
		t.Fatalf("Hear(%v, %v, %v): %d", x, r, l, e)
	}
	return echo
}

func wantHeard(t *testing.T, what string, got, want api.Echo) {
	t.Helper()
	if got != want {
		t.Errorf("%s: %+v, want %+v", what, got, want)
	}
}

// P2.4: the examples.
func TestHearExamples(t *testing.T) {
	wantHeard(t, "the first one", mustHear(t, one(), exact(), example()), firstEcho())

	slipped := firstEcho()
	slipped.Steps[0], slipped.Turn = span(108, 112), span(-6, 6)
	wantHeard(t, "with Phase 3", mustHear(t, one(), pulse.Receiver{Phase: 3}, example()), slipped)

	rough := firstEcho()
	rough.Power, rough.Ratio, rough.Match = span(61, 111), span(0, 427), span(297, 1000)
	wantHeard(t, "with Level 1 and Noise", mustHear(t, one(), pulse.Receiver{Level: 1, Noise: span(10, 20)}, example()), rough)

	apart := samples([4]int{10, 0, 5, 0}, [4]int{10, 32768, 5, 0}, [4]int{10, 0, 5, 0}, [4]int{10, 0, 5, 0})
	mixed := api.Echo{Kind: api.Mixed, Power: pt(100), Spread: 32768, Ratio: pt(250), Match: pt(1000)}
	wantHeard(t, "that does not go together", mustHear(t, one(), exact(), apart), mixed)

	quiet := api.Echo{Kind: api.Quiet}
	wantHeard(t, "below the noise", mustHear(t, one(), pulse.Receiver{Noise: pt(200)}, example()), quiet)
}

// P2.4: echoes against their definition; and they are valid (P2.2).
func TestHear(t *testing.T) {
	n := &noise{state: 1}
	kinds := map[[2]int]int{}
	for range 12000 {
		x, r := n.train(), n.receiver()
		l := n.samples(x)
		echo := mustHear(t, x, r, l)
		if want := wantEcho(x, r, l); echo != want {
			t.Fatalf("Hear(%v, %v, %v): %+v, want %+v", x, r, l, echo, want)
		}
		if e := pulse.CheckEcho(echo); e != api.OK {
			t.Fatalf("the echo %+v: %d", echo, e)
		}
		kinds[[2]int{x.Kind, echo.Kind}]++
	}
	for _, train := range []int{pulse.One, pulse.Two, pulse.Turns} {
		for _, kind := range []int{api.Quiet, api.Mixed, api.Clear} {
			if kinds[[2]int{train, kind}] < 200 {
				t.Errorf("trains of the kind %d lead to the kind %d only %d times", train, kind, kinds[[2]int{train, kind}])
			}
		}
	}
}

// P2.4: power as great as the noise, or just greater; and quotients that are
// rounded.
func TestHearPower(t *testing.T) {
	for _, x := range []struct {
		noise api.Span
		level int
		h     []int
		kind  int
		want  api.Span
	}{
		{pt(100), 0, []int{10, 10, 10, 10}, api.Quiet, pt(0)},
		{pt(99), 0, []int{10, 10, 10, 10}, api.Clear, pt(1)},
		{span(99, 100), 0, []int{10, 10, 10, 10}, api.Quiet, span(0, 1)},
		{span(0, 99), 0, []int{10, 10, 10, 10}, api.Clear, span(1, 100)},
		{span(0, 1048576), 0, []int{10, 10, 10, 10}, api.Quiet, span(0, 100)},
		{pt(0), 0, []int{0, 0, 0, 0}, api.Quiet, pt(0)},
		{pt(0), 0, []int{1, 0, 1, 1}, api.Quiet, span(0, 1)},
		{pt(0), 0, []int{1, 1, 1, 2}, api.Clear, span(1, 2)},
		{pt(1), 0, []int{1, 1, 1, 2}, api.Quiet, span(0, 1)},
		{pt(0), 10, []int{10, 10, 10, 10}, api.Quiet, span(0, 400)},
		{pt(0), 9, []int{10, 10, 10, 10}, api.Clear, span(1, 361)},
		{pt(0), 64, []int{0, 0, 0, 0}, api.Quiet, span(0, 4096)},
		{pt(0), 64, []int{1023, 1023, 1023, 1023}, api.Clear, span(919681, 1181569)},
		{pt(1048576), 0, []int{1023, 1023, 1023, 1023}, api.Quiet, pt(0)},
		{pt(1046528), 0, []int{1023, 1023, 1023, 1023}, api.Clear, pt(1)},
	} {
		l := phased(0, 7, 5, 5, 5, 5)
		for i, h := range x.h {
			l[i].H = h
		}
		echo := mustHear(t, one(), pulse.Receiver{Level: x.level, Noise: x.noise}, l)
		if echo.Power != x.want || echo.Kind != x.kind {
			t.Errorf("Hear of %v, Level %d, Noise %v: %+v, want the kind %d and %v", x.h, x.level, x.noise, echo, x.kind, x.want)
		}
		if x.kind == api.Quiet {
			wantHeard(t, "a quiet echo", echo, api.Echo{Kind: api.Quiet, Power: x.want})
		}
	}
}

// P2.4: ratios and matches of loud, faint and silent second channels.
func TestHearChannels(t *testing.T) {
	r := pulse.Receiver{}
	for _, x := range []struct {
		level        int
		noise        api.Span
		h, v         int
		ratio, match api.Span
	}{
		{0, pt(0), 10, 0, pt(0), span(0, 1000)},
		{0, pt(0), 10, 10, pt(1000), pt(1000)},
		{0, pt(0), 3, 10, span(11111, 11112), pt(1000)},
		{0, pt(0), 1, 31, pt(961000), pt(1000)},
		{0, pt(0), 1, 32, pt(1000000), pt(1000)},
		{1, pt(0), 2, 100, pt(1000000), span(106, 1000)},
		{1, pt(0), 10, 1, span(0, 50), span(0, 1000)},
		{1, pt(0), 10, 2, span(8, 112), span(74, 1000)},
		{0, pt(25), 10, 5, pt(0), pt(1000)},
		{0, span(20, 30), 10, 5, span(0, 72), pt(1000)},
		{64, pt(0), 1023, 1023, span(778, 1285), span(605, 1000)},
	} {
		r.Level, r.Noise = x.level, x.noise
		echo := mustHear(t, one(), r, phased(x.h, x.v, 1, 2, 3, 4))
		if echo.Ratio != x.ratio || echo.Match != x.match {
			t.Errorf("Hear of %d and %d, Level %d, Noise %v: %+v, want %v and %v", x.h, x.v, x.level, x.noise, echo, x.ratio, x.match)
		}
	}
	// The products have the sum 3, and the squares the sums 7 and 5.
	l := phased(1, 0, 0, 0, 0, 0)
	l[0].V, l[1].V, l[2].H = 1, 2, 2
	if echo := mustHear(t, one(), exact(), l); echo.Match != span(257, 258) {
		t.Errorf("Hear of channels that differ: %+v", echo)
	}
	// Where all is as loud as can be, nothing wraps around.
	if echo := mustHear(t, two(64), pulse.Receiver{Level: 64}, phased(1023, 1023, make([]int, 64)...)); echo.Match != span(605, 1000) {
		t.Errorf("Hear of the loudest samples: %+v", echo)
	}
}

// behind returns samples with these steps in their first channel, of which the
// second one is that far behind.
func behind(far []int, phases ...int) []pulse.Sample {
	l := phased(10, 10, phases...)
	for i := range l {
		l[i].Q = mod(l[i].P + far[i%len(far)])
	}
	return l
}

// P2.4: steps, and turns, go together if their width and four errors are less
// than half a turn.
func TestHearTogether(t *testing.T) {
	for phase, widest := range map[int]int{0: 32767, 1: 32763, 4095: 16387, 4096: 16383} {
		for extra, kind := range []int{api.Clear, api.Mixed} {
			w := widest + extra
			for what, x := range map[string]struct {
				train  pulse.Train
				l      []pulse.Sample
				spread int
			}{
				"steps of First, One":    {one(), phased(10, 10, 0, 0, w, w), w},
				"steps of First, Two":    {two(6), phased(10, 10, 0, 0, w, 9, 9, 9), w},
				"steps of Second, Two":   {two(6), phased(10, 10, 9, 9, 9, 0, 0, w), w},
				"steps of First, Turns":  {turns(5), phased(10, 10, 0, 0, 0, w, w), w},
				"steps of Second, Turns": {turns(5), phased(10, 10, 0, 0, w, w, w), w},
				"turns":                  {one(), behind([]int{65530, 65530 + w, 65533}, 0, 0, 0, 0), 0},
			} {
				echo := mustHear(t, x.train, pulse.Receiver{Phase: phase}, x.l)
				if echo.Kind != kind || echo.Spread != x.spread {
					t.Errorf("%s of the width %d with Phase %d: %+v, want the kind %d", what, w, phase, echo, kind)
				}
				if kind == api.Mixed && (echo.Steps != [2]api.Span{} || echo.Turn != api.Span{}) {
					t.Errorf("%s of the width %d: steps in %+v", what, w, echo)
				}
			}
		}
	}
}

// P2.4: which steps are those of First, and which those of Second; and whole
// turns that are left out.
func TestHearSteps(t *testing.T) {
	long := phased(10, 10)
	for i := range 64 {
		long = append(long, phased(10, 10, 40000*i)...)
	}
	for what, x := range map[string]struct {
		train  pulse.Train
		phase  int
		l      []pulse.Sample
		steps  [2]api.Span
		spread int
	}{
		"two pulses":                {count(one(), 2), 0, phased(10, 10, 65000, 300), [2]api.Span{pt(836)}, 0},
		"two pulses, known roughly": {count(one(), 2), 7, phased(10, 10, 65000, 300), [2]api.Span{span(822, 850)}, 0},
		"halves":                    {two(4), 0, phased(10, 10, 0, 100, 40000, 40200), [2]api.Span{pt(100), pt(200)}, 0},
		"halves, known roughly":     {two(4), 3, phased(10, 10, 0, 100, 40000, 40200), [2]api.Span{span(94, 106), span(194, 206)}, 0},
		"longer halves":             {two(6), 3, phased(10, 10, 0, 100, 201, 0, 200, 433), [2]api.Span{span(97, 104), span(213, 220)}, 33},
		"turns":                     {turns(3), 3, phased(10, 10, 0, 100, 300), [2]api.Span{span(94, 106), span(194, 206)}, 0},
		"more turns":                {turns(5), 3, phased(10, 10, 0, 100, 300, 401, 604), [2]api.Span{span(94, 107), span(195, 208)}, 3},
		"turns, and a first step":   {turns(4), 0, phased(10, 10, 0, 100, 300, 404), [2]api.Span{pt(102), pt(200)}, 4},
		"half a turn":               {one(), 0, phased(10, 10, 0, 32768, 0, 32768), [2]api.Span{pt(-32768)}, 0},
		"nearly half a turn":        {one(), 0, phased(10, 10, 0, 32767, 65534, 32765), [2]api.Span{pt(32767)}, 0},
		"about half a turn":         {one(), 2, phased(10, 10, 0, 32768, 0, 32768), [2]api.Span{span(32766, 32770)}, 0},
		"back":                      {one(), 0, phased(10, 10, 0, 65436, 65336, 65235), [2]api.Span{span(-101, -100)}, 1},
		"back and forth":            {one(), 0, phased(10, 10, 0, 65535, 0, 65535), [2]api.Span{span(-1, 0)}, 2},
		"many steps":                {count(one(), 64), 4096, long, [2]api.Span{span(-25667, -25405)}, 0},
	} {
		echo := mustHear(t, x.train, pulse.Receiver{Phase: x.phase}, x.l)
		if echo.Kind != api.Clear || echo.Steps != x.steps || echo.Spread != x.spread {
			t.Errorf("%s: %+v, want %v and the spread %d", what, echo, x.steps, x.spread)
		}
	}
}

// count returns a train with another count of pulses.
func count(t pulse.Train, n int) pulse.Train {
	t.Count = n
	return t
}

// P2.4: how far the second channel is behind.
func TestHearTurn(t *testing.T) {
	for _, x := range []struct {
		phase int
		far   []int
		want  api.Span
	}{
		{0, []int{0}, pt(0)}, {0, []int{5, 6}, span(5, 6)}, {0, []int{32767}, pt(32767)}, {0, []int{32768}, pt(-32768)},
		{0, []int{65535, 0}, span(-1, 0)}, {3, []int{100}, span(94, 106)}, {3, []int{32768}, span(32762, 32774)},
		{4096, []int{0}, span(-8192, 8192)}, {1, []int{0, 0, 0, 1}, span(-2, 3)},
	} {
		echo := mustHear(t, one(), pulse.Receiver{Phase: x.phase}, behind(x.far, 7, 1000, 2000, 3000))
		if echo.Turn != x.want || echo.Kind != api.Clear {
			t.Errorf("a second channel %v behind, Phase %d: %+v, want %v", x.far, x.phase, echo, x.want)
		}
	}
}

// P2.4: counts and samples that are not valid, in this order.
func TestHearErrors(t *testing.T) {
	set := func(i int, x pulse.Sample) []pulse.Sample {
		l := example()
		l[i] = x
		return l
	}
	for what, x := range map[string]struct {
		l    []pulse.Sample
		want api.Errno
	}{
		"no samples":               {nil, api.ErrShape},
		"too few":                  {example()[:3], api.ErrShape},
		"too many":                 {append(example(), pulse.Sample{}), api.ErrShape},
		"too many, one not valid":  {append(set(0, pulse.Sample{H: -1}), pulse.Sample{}), api.ErrShape},
		"the least numbers":        {set(0, pulse.Sample{}), api.OK},
		"the greatest numbers":     {set(3, pulse.Sample{H: 1023, P: 65535, V: 1023, Q: 65535}), api.OK},
		"H below 0":                {set(0, pulse.Sample{H: -1}), api.ErrRange},
		"H above all":              {set(1, pulse.Sample{H: 1024}), api.ErrRange},
		"V below 0":                {set(2, pulse.Sample{V: -1}), api.ErrRange},
		"V above all":              {set(3, pulse.Sample{V: 1024}), api.ErrRange},
		"P below 0":                {set(3, pulse.Sample{P: -1}), api.ErrRange},
		"P above all":              {set(2, pulse.Sample{P: 65536}), api.ErrRange},
		"Q below 0":                {set(1, pulse.Sample{Q: -1}), api.ErrRange},
		"Q above all":              {set(0, pulse.Sample{Q: 65536}), api.ErrRange},
		"a sample without a limit": {set(3, pulse.Sample{H: 1 << 62, P: -1 << 63, V: 1<<63 - 1, Q: 1 << 62}), api.ErrRange},
	} {
		echo, e := pulse.Hear(one(), exact(), x.l)
		wantErr(t, what, e, x.want)
		if (echo == api.Echo{}) != (x.want != api.OK) {
			t.Errorf("%s: %+v with the error %d", what, echo, e)
		}
		rows, e := pulse.Ray(one(), exact(), [][]pulse.Sample{example(), x.l, example()})
		wantErr(t, "a ray with "+what, e, x.want)
		if len(rows) != 0 && x.want != api.OK || x.want == api.OK && len(rows) != 3 {
			t.Errorf("a ray with %s: %v with the error %d", what, rows, e)
		}
	}
}

// P2.4: a ray has the echo of each row.
func TestRay(t *testing.T) {
	n := &noise{state: 4}
	for _, size := range []int{0, 1, 2, 57, 200} {
		for _, x := range trains() {
			r := n.receiver()
			rows := make([][]pulse.Sample, size)
			want := make([]api.Echo, size)
			for i := range rows {
				rows[i] = n.samples(x)
				want[i] = wantEcho(x, r, rows[i])
			}
			if l, e := pulse.Ray(x, r, rows); !slices.Equal(l, want) || e != api.OK {
				t.Fatalf("Ray of %d rows: %v %d, want %v", size, l, e, want)
			}
		}
	}
	if l, e := pulse.Ray(one(), exact(), nil); len(l) != 0 || e != api.OK {
		t.Errorf("Ray of no rows: %v %d", l, e)
	}
}

// P2.4: too many rows, ahead of rows that are not valid, of which the first one
// decides.
func TestRayErrors(t *testing.T) {
	short, wrong := example()[:1], example()
	wrong[0].H = -1
	many := slices.Repeat([][]pulse.Sample{wrong}, 201)
	for what, x := range map[string]struct {
		rows [][]pulse.Sample
		want api.Errno
	}{
		"201 rows":                    {slices.Repeat([][]pulse.Sample{example()}, 201), api.ErrShape},
		"201 rows that are not valid": {many, api.ErrShape},
		"200 of them":                 {many[:200], api.ErrRange},
		"an empty row":                {[][]pulse.Sample{nil}, api.ErrShape},
		"a short row first":           {[][]pulse.Sample{example(), short, wrong}, api.ErrShape},
		"a wrong row first":           {[][]pulse.Sample{example(), wrong, short}, api.ErrRange},
	} {
		l, e := pulse.Ray(one(), exact(), x.rows)
		wantErr(t, what, e, x.want)
		if len(l) != 0 {
			t.Errorf("%s: %v", what, l)
		}
	}
}
