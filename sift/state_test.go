package sift_test

import (
	"testing"

	"radome/api"
	"radome/sift"
)

const (
	sure    = sift.Sure
	perhaps = sift.Perhaps
	never   = sift.Never
)

// kinds is a sweep with an echo of each kind in its first ray, whose spans are
// all different.
func kinds() api.Sweep {
	s := api.Sweep{Site: api.Site{Name: "s", Rose: 1, Gates: 3, Step: 1000}, Tilt: 256}
	for range 4 {
		s.Rays = append(s.Rays, []api.Echo{quiet(0), quiet(7), quiet(0)})
	}
	mixed := api.Echo{Kind: api.Mixed, Power: span(11, 12), Ratio: span(13, 14), Match: span(15, 16), Spread: 17}
	clear := mixed
	clear.Kind, clear.Steps, clear.Turn = api.Clear, [2]api.Span{span(-19, -18), span(20, 21)}, span(-23, 22)
	s.Rays[2] = []api.Echo{quiet(7), mixed, clear}
	return s
}

// P4.3: what each kind of value is, for each kind of echo.
func TestValues(t *testing.T) {
	none := api.Span{Lo: 1, Hi: 0}
	for text, want := range map[string][3]api.Span{
		"0":                    {pt(0), pt(0), pt(0)},
		"1000000000":           {pt(1000000000), pt(1000000000), pt(1000000000)},
		"power":                {span(0, 7), span(11, 12), span(11, 12)},
		"ratio":                {none, span(13, 14), span(13, 14)},
		"match":                {none, span(15, 16), span(15, 16)},
		"spread":               {none, pt(17), pt(17)},
		"turn":                 {none, none, span(-23, 22)},
		"step":                 {none, none, span(-19, -18)},
		"kind":                 {pt(1), pt(2), pt(3)},
		"ray":                  {pt(2), pt(2), pt(2)},
		"gate":                 {pt(0), pt(1), pt(2)},
		"tilt":                 {pt(256), pt(256), pt(256)},
		"power + 5":            {span(5, 12), span(16, 17), span(16, 17)},
		"power - 5":            {span(-5, 2), span(6, 7), span(6, 7)},
		"5 - power":            {span(-2, 5), span(-7, -6), span(-7, -6)},
		"power - power":        {span(-7, 7), span(-1, 1), span(-1, 1)},
		"power + ratio":        {none, span(24, 26), span(24, 26)},
		"ratio - power":        {none, span(1, 3), span(1, 3)},
		"turn + turn":          {none, none, span(-46, 44)},
		"step - turn + 1":      {none, none, span(-40, 6)},
		"1 - 2 - 3":            {pt(-4), pt(-4), pt(-4)},
		"kind - gate":          {pt(1), pt(1), pt(1)},
		"turn - turn + kind":   {none, none, span(-42, 48)},
		"count 0 3 kind > 1":   {pt(2), pt(1), pt(1)},
		"count 0 1 power > 11": {span(0, 1), span(0, 1), span(0, 1)},
	} {
		v := mustAmount(t, text)
		for gate, w := range want {
			is := w != none
			if !is {
				w = api.Span{}
			}
			got, gotIs, e := sift.Value(v, kinds(), 2, gate)
			if e != api.OK || got != w || gotIs != is {
				t.Errorf("%s at the gate %d: %v, %v, error %d; want %v, %v", text, gate, got, gotIs, e, w, is)
			}
		}
	}
	most := mustAmount(t, "1000000000 + 1000000000 + 1000000000 + 1000000000 + 1000000000 + 1000000000 + 1000000000 + 1000000000 + 1000000000 + 1000000000")
	if got, is, e := sift.Value(most, kinds(), 0, 0); e != api.OK || !is || got != pt(10000000000) {
		t.Errorf("a great sum: %v, %v, error %d", got, is, e)
	}
}

// P4.3: comparisons of all spans with few integers.
func TestComparisons(t *testing.T) {
	s := example()
	for lo := 1; lo <= 4; lo++ {
		for hi := lo; hi <= 4; hi++ {
			for least := range 6 {
				for most := least; most < 6; most++ {
					x := api.Echo{Kind: api.Mixed, Power: span(lo, hi), Ratio: span(least, most)}
					s.Rays[1][0] = x
					for op := sift.Lt; op <= sift.Ne; op++ {
						c := over(op, leaf(sift.Power), leaf(sift.Ratio))
						want := wantCompared(op, x.Power, x.Ratio)
						if got := mustTest(t, c, s, place{1, 0}); got != want {
							t.Errorf("%s for %v: %d, want %d", wantWords(c), x, got, want)
						}
						back := over(op, leaf(sift.Ratio), leaf(sift.Power))
						want = wantCompared(op, x.Ratio, x.Power)
						if got := mustTest(t, back, s, place{1, 0}); got != want {
							t.Errorf("%s for %v: %d, want %d", wantWords(back), x, got, want)
						}
					}
				}
			}
		}
	}
}

// P4.3: a value that there is not, on either side and on both of them.
func TestNoValues(t *testing.T) {
	for _, gate := range []int{0, 1} {
		for op := sift.Lt; op <= sift.Ne; op++ {
			for _, c := range []sift.Node{
				over(op, leaf(sift.Turn), num(0)), over(op, num(0), leaf(sift.Turn)),
				over(op, leaf(sift.Turn), leaf(sift.Step)), over(op, leaf(sift.Turn), leaf(sift.Turn)),
				over(op, over(sift.Add, leaf(sift.Turn), num(1)), num(1)), over(op, num(1), over(sift.Sub, num(1), leaf(sift.Step))),
			} {
				if got := mustTest(t, c, kinds(), place{2, gate}); got != never {
					t.Errorf("%s at the gate %d: %d", wantWords(c), gate, got)
				}
				if got := mustTest(t, not(c), kinds(), place{2, gate}); got != sure {
					t.Errorf("not %s at the gate %d: %d", wantWords(c), gate, got)
				}
			}
		}
	}
}

// P4.3: what Not, And and Or are, for all that is below them.
func TestLogic(t *testing.T) {
	s := kinds() // the power of the ray 2, gate 0 is 0 to 7
	conds := map[int]sift.Node{sure: mustCond(t, "power < 8"), perhaps: mustCond(t, "power < 7"), never: mustCond(t, "power > 7")}
	at := place{2, 0}
	for a, x := range conds {
		if got := mustTest(t, x, s, at); got != a {
			t.Errorf("%s: %d", wantWords(x), got)
		}
		if got, want := mustTest(t, not(x), s, at), map[int]int{sure: never, perhaps: perhaps, never: sure}[a]; got != want {
			t.Errorf("not %d: %d, want %d", a, got, want)
		}
		for b, y := range conds {
			and, or := perhaps, perhaps
			if a == never || b == never {
				and = never
			} else if a == sure && b == sure {
				and = sure
			}
			if a == sure || b == sure {
				or = sure
			} else if a == never && b == never {
				or = never
			}
			if got := mustTest(t, over(sift.And, x, y), s, at); got != and {
				t.Errorf("%d and %d: %d, want %d", a, b, got, and)
			}
			if got := mustTest(t, over(sift.Or, x, y), s, at); got != or {
				t.Errorf("%d or %d: %d, want %d", a, b, got, or)
			}
		}
	}
	if mustTest(t, leaf(sift.True), s, at) != sure || mustTest(t, leaf(sift.False), s, at) != never {
		t.Error("true and false are not")
	}
}

// P4.3: neighbors: none, in one ray, with one gate, around the radar, with few
// rays so that both directions meet, at the first and the last gate.
func TestNeighbors(t *testing.T) {
	for _, sizes := range [][2]int{{1, 1}, {1, 2}, {1, 8}, {2, 1}, {2, 4}, {3, 2}} {
		s := api.Sweep{Site: api.Site{Name: "s", Rose: sizes[0], Gates: sizes[1], Step: 1000}}
		for range 4 * sizes[0] {
			var ray []api.Echo
			for range sizes[1] {
				ray = append(ray, quiet(0))
			}
			s.Rays = append(s.Rays, ray)
		}
		for _, at := range places(s) {
			for rays := range 4 {
				for gates := range 4 {
					checkNeighbors(t, s, at, rays, gates)
				}
			}
		}
	}
}

// checkNeighbors checks for which gates it matters to another one that they
// have an echo, and how many there are.
func checkNeighbors(t *testing.T, s api.Sweep, at place, rays, gates int) {
	t.Helper()
	isNear := map[place]bool{}
	for _, p := range wantNear(s, at, rays, gates) {
		isNear[p] = true
	}
	n, _, e := sift.Value(near(sift.Count, rays, gates, leaf(sift.True)), s, at.ray, at.gate)
	if e != api.OK || n != pt(len(isNear)) {
		t.Fatalf("%d rays and %d gates from %v, of %d: %v, want %d", rays, gates, at, len(s.Rays), n, len(isNear))
	}
	for _, p := range places(s) {
		s.Rays[p.ray][p.gate] = api.Echo{Kind: api.Mixed, Power: pt(9)}
		n, _, e := sift.Value(near(sift.Count, rays, gates, strong(8)), s, at.ray, at.gate)
		if e != api.OK || (n == pt(1)) != isNear[p] || n != pt(0) && n != pt(1) {
			t.Fatalf("%v with %d rays and %d gates from %v, of %d: %v, want %v", p, rays, gates, at, len(s.Rays), n, isNear[p])
		}
		s.Rays[p.ray][p.gate] = quiet(0)
	}
}

// P4.3: what Some, All and Count are for neighbors of which some are Sure,
// some Perhaps and some Never.
func TestAround(t *testing.T) {
	powers := map[int]api.Span{sure: span(5, 6), perhaps: span(4, 5), never: span(3, 4)}
	for a := sure; a <= never; a++ {
		for b := sure; b <= never; b++ {
			for c := sure; c <= never; c++ {
				s := kinds()
				for i, x := range []int{a, b, c, sure} {
					s.Rays[i][1] = api.Echo{Kind: api.Mixed, Power: powers[x]}
				}
				// the neighbors of the ray 3 are those with a and c; those of the ray 1 within 2 all but b
				for at, l := range map[place][]int{{3, 1}: {a, c}, {1, 1}: {a, c, sure}} {
					r := map[bool]int{true: 1, false: 2}[at.ray == 3]
					if got := mustTest(t, near(sift.Some, r, 0, strong(4)), s, at); got != wantSome(l) {
						t.Errorf("some of %v: %d", l, got)
					}
					if got := mustTest(t, near(sift.All, r, 0, strong(4)), s, at); got != wantAll(l) {
						t.Errorf("all of %v: %d", l, got)
					}
					n, is, e := sift.Value(near(sift.Count, r, 0, strong(4)), s, at.ray, at.gate)
					if e != api.OK || !is || n != wantCount(l) {
						t.Errorf("count of %v: %v, %v, %d", l, n, is, e)
					}
				}
			}
		}
	}
	for _, inner := range []sift.Node{leaf(sift.True), leaf(sift.False), strong(2)} {
		for at, s := range map[place]api.Sweep{{0, 0}: kinds(), {3, 2}: kinds()} {
			n, is, e := sift.Value(near(sift.Count, 0, 0, inner), s, at.ray, at.gate)
			if e != api.OK || !is || n != pt(0) {
				t.Errorf("no neighbors: %v, %v, %d", n, is, e)
			}
			if got := mustTest(t, near(sift.Some, 0, 0, inner), s, at); got != never {
				t.Errorf("some of no neighbors: %d", got)
			}
			if got := mustTest(t, near(sift.All, 0, 0, inner), s, at); got != sure {
				t.Errorf("all of no neighbors: %d", got)
			}
		}
	}
}

// P4.3: any conditions and values, each kind of node below the others.
func TestAnyConditions(t *testing.T) {
	n := &noise{state: 43}
	count := map[int]int{}
	for range 700 {
		s := n.sweep(1+n.upTo(1), 1+n.upTo(4))
		c, v := n.cond(2+n.upTo(2)), n.value(1+n.upTo(3))
		all := places(s)
		for range 5 {
			at := all[n.upTo(len(all)-1)]
			want := wantState(c, s, at)
			count[want]++
			if got := mustTest(t, c, s, at); got != want {
				t.Fatalf("%s at %v of %v: %d, want %d", wantWords(c), at, s, got, want)
			}
			span, is := wantValue(v, s, at)
			got, gotIs, e := sift.Value(v, s, at.ray, at.gate)
			if e != api.OK || got != span || gotIs != is {
				t.Fatalf("%s at %v of %v: %v, %v, error %d; want %v, %v", wantWords(v), at, s, got, gotIs, e, span, is)
			}
		}
	}
	if count[sure] < 100 || count[perhaps] < 100 || count[never] < 100 {
		t.Errorf("only %v", count)
	}
}

// P4.3: the examples of the chapter.
func TestStateExamples(t *testing.T) {
	for _, x := range []struct {
		text string
		at   place
		want int
	}{
		{"power > 9", place{0, 1}, sure},
		{"power > 10", place{0, 1}, perhaps},
		{"power > 20", place{0, 1}, never},
		{"match >= 900", place{0, 1}, sure},
		{"turn = 0", place{0, 1}, never},
		{"not turn = 0", place{0, 1}, sure},
		{"some 1 0 kind = 2", place{1, 1}, sure},
		{"some 1 0 kind = 2", place{2, 1}, never},
		{"all 0 0 false", place{2, 1}, sure},
	} {
		if got := mustTest(t, mustCond(t, x.text), example(), x.at); got != x.want {
			t.Errorf("%s at %v: %d, want %d", x.text, x.at, got, x.want)
		}
	}
	for text, want := range map[string]api.Span{"count 1 1 kind = 1": pt(5), "count 3 3 power > 4": span(0, 7)} {
		if got, is, e := sift.Value(mustAmount(t, text), example(), 0, 1); got != want || !is || e != api.OK {
			t.Errorf("%s: %v, %v, error %d; want %v", text, got, is, e, want)
		}
	}
}
