package fold_test

import (
	"slices"
	"testing"

	"radome/api"
	"radome/fold"
	"radome/pulse"
)

// seen returns a sweep of some echoes.
func seen(rays [][]api.Echo) api.Sweep {
	site := api.Site{Name: "s", Rose: len(rays) / 4, Gates: len(rays[0]), Step: 500}
	return api.Sweep{Site: site, Rays: rays}
}

// wantUnfold follows the chapter with what Guesses, Union and Turn return.
func wantUnfold(t *testing.T, x pulse.Train, s api.Sweep, most, jump, bridge int) [][]fold.Found {
	t.Helper()
	sets := make([][][]api.Span, len(s.Rays))
	for ray, echoes := range s.Rays {
		for _, echo := range echoes {
			var l []api.Span
			if echo.Kind == api.Clear {
				for _, g := range mustGuess(t, x, echo, most) {
					l = append(l, g.Speed)
				}
			}
			u, e := fold.Union(l)
			if e != api.OK {
				t.Fatalf("Union(%v): %d", l, e)
			}
			sets[ray] = append(sets[ray], u)
		}
	}
	stable := mustTurn(t, sets, jump, bridge)
	all := make([][]fold.Found, len(s.Rays))
	for ray, echoes := range s.Rays {
		for gate, echo := range echoes {
			f := fold.Found{State: fold.Blank}
			if echo.Kind == api.Clear {
				f.Guesses = wantLeft(mustGuess(t, x, echo, most), stable[ray][gate])
				f.State = []int{fold.Torn, fold.Single, fold.Several}[min(2, len(f.Guesses))]
			}
			all[ray] = append(all[ray], f)
		}
	}
	return all
}

// wantLeft returns the guesses that have something in common with a set.
func wantLeft(l []fold.Guess, s []api.Span) []fold.Guess {
	var left []fold.Guess
	for _, g := range l {
		var common []api.Span
		for _, x := range s {
			common = append(common, wantCommon(g.Speed, x)...)
		}
		if len(common) > 0 {
			left = append(left, fold.Guess{Whole: g.Whole, Speed: span(common[0].Lo, common[len(common)-1].Hi)})
		}
	}
	return left
}

func sameFound(a, b [][]fold.Found) bool {
	return slices.EqualFunc(a, b, func(x, y []fold.Found) bool {
		return slices.EqualFunc(x, y, func(f, g fold.Found) bool {
			return f.State == g.State && slices.Equal(f.Guesses, g.Guesses)
		})
	})
}

// P3.3: each state, and what is left of guesses.
func TestUnfoldStates(t *testing.T) {
	guess := func(whole, lo, hi int) fold.Guess {
		return fold.Guess{Whole: [2]int{whole, 0}, Speed: span(lo, hi)}
	}
	blank := fold.Found{State: fold.Blank}
	torn := fold.Found{State: fold.Torn}
	some := func(l ...fold.Guess) fold.Found {
		return fold.Found{State: []int{0, fold.Single, fold.Several}[min(2, len(l))], Guesses: l}
	}
	clear := func(lo, hi int) api.Echo { return heard(span(lo, hi), pt(0)) }
	mixed := api.Echo{Kind: api.Mixed, Power: pt(1)}
	quarter := clear(16384, 16384) // 12,500 mm/s, and whole turns of 50,000
	rays := func(l ...api.Echo) [][]api.Echo {
		q := make([]api.Echo, len(l))
		for i := range q {
			q[i] = quiet()
		}
		return [][]api.Echo{l, q, q, q}
	}
	for what, x := range map[string]struct {
		l                  []api.Echo
		most, jump, bridge int
		want               []fold.Found
	}{
		"alone":                  {[]api.Echo{quarter, mixed, quiet()}, 60000, 0, 1, []fold.Found{some(guess(-1, -37500, -37500), guess(0, 12500, 12500)), blank, blank}},
		"alone, with more":       {[]api.Echo{quarter}, 62500, 0, 1, []fold.Found{some(guess(-1, -37500, -37500), guess(0, 12500, 12500), guess(1, 62500, 62500))}},
		"no guess at all":        {[]api.Echo{quarter}, 12499, 0, 1, []fold.Found{torn}},
		"no guess, not linked":   {[]api.Echo{clear(0, 0), quarter, clear(0, 1)}, 12499, 0, 1, []fold.Found{some(guess(0, 0, 0)), torn, some(guess(0, 0, 1))}},
		"no guess, but a bridge": {[]api.Echo{clear(-8192, 8192), quarter, clear(8192, 8193)}, 12499, 100, 2, []fold.Found{some(guess(0, 6050, 6250)), torn, some(guess(0, 6250, 6251))}},
		"the neighbor decides":   {[]api.Echo{clear(-8192, -4096), quarter, clear(0, 8192)}, 60000, 12000, 1, []fold.Found{torn, torn, torn}},
		"the neighbor is near":   {[]api.Echo{clear(0, 1), quarter, clear(8192, 8192)}, 24000, 20000, 1, []fold.Found{some(guess(0, 0, 1)), some(guess(0, 12500, 12500)), some(guess(0, 6250, 6250))}},
		// Both parts of a guess's speeds that are left are in its span.
		"two parts": {[]api.Echo{clear(0, 65535), clear(0, 0)}, 50000, 100, 1, []fold.Found{some(guess(-2, -50000, -50000), guess(-1, -50000, 0), guess(0, 0, 50000), guess(1, 50000, 50000)), some(guess(-1, -50000, -50000), guess(0, 0, 0), guess(1, 50000, 50000))}},
		"a point":   {[]api.Echo{clear(0, 65535), clear(0, 0)}, 49900, 0, 1, []fold.Found{some(guess(-1, 0, 0), guess(0, 0, 0)), some(guess(0, 0, 0))}},
	} {
		got := mustUnfold(t, single(), seen(rays(x.l...)), x.most, x.jump, x.bridge)
		if !sameFound(got[:1], [][]fold.Found{x.want}) {
			t.Errorf("%s: %v, want %v", what, got[0], x.want)
		}
		for _, ray := range got[1:] {
			if !sameFound([][]fold.Found{ray}, [][]fold.Found{slices.Repeat([]fold.Found{blank}, len(x.l))}) {
				t.Errorf("%s: quiet rays are %v", what, ray)
			}
		}
	}
}

// P3.3: a train with two times, and links around the radar.
func TestUnfoldAround(t *testing.T) {
	x := heard(span(13107, 13108), span(0, 1)) // -40,000 mm/s, if both times are asked
	u := heard(span(13107, 13108), span(-32768, 32767))
	rays := [][]api.Echo{{x}, {u}, {quiet()}, {u}}
	guess := func(first, second, lo, hi int) fold.Guess {
		return fold.Guess{Whole: [2]int{first, second}, Speed: span(lo, hi)}
	}
	wide := guess(-1, -1, -40001, -39999)
	got := mustUnfold(t, double(), seen(rays), 100000, 1000, 1)
	want := [][]fold.Found{
		{{State: fold.Single, Guesses: []fold.Guess{guess(-1, -1, -40000, -39999)}}},
		{{State: fold.Single, Guesses: []fold.Guess{wide}}},
		{{State: fold.Blank}},
		{{State: fold.Single, Guesses: []fold.Guess{wide}}},
	}
	if !sameFound(got, want) {
		t.Errorf("beside it: %v, want %v", got, want)
	}
	rays = [][]api.Echo{{x}, {quiet()}, {u}, {quiet()}}
	got = mustUnfold(t, double(), seen(rays), 100000, 1000, 1)
	// 60,000 mm/s lie at the end of a turn of the second time.
	all := []fold.Guess{guess(-2, -2, -90001, -89999), wide, guess(0, 0, 9999, 10001), guess(1, 1, 59999, 60000), guess(1, 2, 60000, 60001)}
	if f := got[2][0]; f.State != fold.Several || !slices.Equal(f.Guesses, all) {
		t.Errorf("beyond the bridge: %v, want %v", f, all)
	}
	got = mustUnfold(t, double(), seen(rays), 100000, 1000, 2)
	if !sameFound(got, [][]fold.Found{want[0], want[2], want[1], want[2]}) {
		t.Errorf("within the bridge: %v, want %v", got, want)
	}
}

// echo returns one of any kind.
func (n *noise) echo() api.Echo {
	switch n.upTo(5) {
	case 0:
		return quiet()
	case 1:
		return api.Echo{Kind: api.Mixed, Power: pt(1)}
	}
	return heard(n.step(), n.step())
}

// P3.3: what is left of sweeps of any echoes.
func TestUnfold(t *testing.T) {
	n := &noise{state: 11}
	states := map[int]int{}
	for range 400 {
		rays := make([][]api.Echo, 4*(1+n.upTo(1)))
		gates := 1 + n.upTo(4)
		for ray := range rays {
			for range gates {
				rays[ray] = append(rays[ray], n.echo())
			}
		}
		x := trains()[n.upTo(len(trains())-1)]
		s, most, jump, bridge := seen(rays), n.of(1000, 30000, 60000), n.of(0, 2000, 20000, 400000), n.of(1, 2, 16)
		got := mustUnfold(t, x, s, most, jump, bridge)
		want := wantUnfold(t, x, s, most, jump, bridge)
		if !sameFound(got, want) {
			t.Fatalf("Unfold(%v, %v, %d, %d, %d): %v, want %v", x, s, most, jump, bridge, got, want)
		}
		for _, ray := range got {
			for _, f := range ray {
				states[f.State]++
			}
		}
	}
	for state := fold.Blank; state <= fold.Torn; state++ {
		if states[state] < 100 {
			t.Errorf("the state %d only %d times", state, states[state])
		}
	}
}

// quarters of mm/s.
type truth [][]int

// truth returns speeds that change slowly, in quarters of mm/s.
func (n *noise) truth(rays, gates, most int) truth {
	wide, slope, middle := n.upTo(2*most), n.upTo(most), n.upTo(2*most)-most
	all := make(truth, rays)
	for ray := range all {
		there := min(ray, rays-ray) // around the radar and back again
		for gate := range gates {
			v := middle + wide*there/rays + slope*gate/gates + n.upTo(400)
			all[ray] = append(all[ray], min(4*most, max(-4*most, v)))
		}
	}
	return all
}

// steps returns a span that has the step of a speed in quarters of mm/s, moved
// to where echoes have them.
func (n *noise) steps(lambda, time, quarters, err int) api.Span {
	s := exactly(quarters*65536*time, 2000*lambda)
	lo, hi := floor(s)-n.upTo(err), ceil(s)+n.upTo(err)
	for lo < -32768 {
		lo, hi = lo+65536, hi+65536
	}
	for lo > 32767 {
		lo, hi = lo-65536, hi-65536
	}
	return span(lo, hi)
}

// echoes returns what a radar hears of true speeds; some gates are quiet.
func (n *noise) echoes(x pulse.Train, speeds truth, err int) [][]api.Echo {
	rays := make([][]api.Echo, len(speeds))
	for ray, l := range speeds {
		for _, v := range l {
			echo := heard(n.steps(x.Lambda, x.First, v, err), pt(0))
			if x.Kind != pulse.One {
				echo.Steps[1] = n.steps(x.Lambda, x.Second, v, err)
			}
			if n.upTo(9) == 0 {
				echo = quiet()
			}
			rays[ray] = append(rays[ray], echo)
		}
	}
	return rays
}

// least returns the least jump for which linked gates do not differ too much.
func (v truth) least(rays [][]api.Echo, bridge int) int {
	sets := make([][][]api.Span, len(rays))
	for ray, echoes := range rays {
		sets[ray] = make([][]api.Span, len(echoes))
		for gate, x := range echoes {
			if x.Kind == api.Clear {
				sets[ray][gate] = spans(0, 0)
			}
		}
	}
	jump := 0
	for _, l := range wantLinks(sets, bridge) {
		differ := v[l.a.ray][l.a.gate] - v[l.b.ray][l.b.gate]
		jump = max(jump, (max(differ, -differ)+4*l.d-1)/(4*l.d))
	}
	return jump
}

// P3.6, G1, G2: what is true is never torn, and lies within a guess.
func TestUnfoldTruth(t *testing.T) {
	n := &noise{state: 12}
	states := map[int]int{}
	for range 200 {
		x := trains()[n.upTo(len(trains())-1)]
		most := n.of(1000, 10000, 30000, 60000)
		speeds := n.truth(4*(1+n.upTo(3)), 1+n.upTo(12), most)
		rays := n.echoes(x, speeds, n.of(0, 100, 3000, 30000))
		bridge := n.of(1, 2, 5, 16)
		jump := speeds.least(rays, bridge)
		got := mustUnfold(t, x, seen(rays), most, jump, bridge)
		for ray, l := range got {
			for gate, f := range l {
				states[f.State]++
				v := speeds[ray][gate]
				has := slices.ContainsFunc(f.Guesses, func(g fold.Guess) bool { return 4*g.Speed.Lo <= v && v <= 4*g.Speed.Hi })
				if rays[ray][gate].Kind == api.Clear && !has || f.State == fold.Torn {
					t.Fatalf("%v, %v up to %d, with %d and %d: ray %d, gate %d: %v, but %d / 4 is true", x, rays, most, jump, bridge, ray, gate, f, v)
				}
			}
		}
	}
	for state := fold.Blank; state <= fold.Several; state++ {
		if states[state] < 500 {
			t.Errorf("the state %d only %d times", state, states[state])
		}
	}
}

// P3.6: of sweeps as large as they can be, no speed is torn.
func TestUnfoldLarge(t *testing.T) {
	n := &noise{state: 13}
	speeds := n.truth(360, 200, 60000)
	x := pulse.Train{Lambda: 53000, Kind: pulse.Turns, First: 1000, Second: 1250, Count: 64}
	rays := n.echoes(x, speeds, 200)
	for what, t2 := range map[string]pulse.Train{"both times": x, "one time": alone(x, x.First)} {
		got := mustUnfold(t, t2, seen(rays), 100000, speeds.least(rays, 16), 16)
		torn := 0
		for _, l := range got {
			for _, f := range l {
				if f.State == fold.Torn {
					torn++
				}
			}
		}
		if torn > 0 {
			t.Errorf("%s: %d gates are torn", what, torn)
		}
	}
}
