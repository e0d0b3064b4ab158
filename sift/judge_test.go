package sift_test

import (
	"slices"
	"testing"

	"radome/api"
	"radome/sift"
)

// P4.4: verdicts with and without doubts, and with no rule.
func TestVerdicts(t *testing.T) {
	s := example() // the power of the ray 0, gate 1 is 10 to 20
	texts := map[int]string{sure: "power > 9", perhaps: "power > 10", never: "power > 20"}
	for what, x := range map[string]struct {
		states []int
		want   sift.Verdict
	}{
		"no rules":                     {nil, sift.Verdict{Rule: -1}},
		"none":                         {[]int{never, never}, sift.Verdict{Rule: -1}},
		"doubts without a rule":        {[]int{perhaps, never, perhaps}, sift.Verdict{Rule: -1, Doubts: []int{0, 2}}},
		"the first one":                {[]int{sure, perhaps, sure}, sift.Verdict{Rule: 0}},
		"the last one":                 {[]int{never, never, sure}, sift.Verdict{Rule: 2}},
		"the first one of two":         {[]int{never, sure, sure}, sift.Verdict{Rule: 1}},
		"doubts in front of it":        {[]int{perhaps, never, perhaps, sure, perhaps}, sift.Verdict{Rule: 3, Doubts: []int{0, 2}}},
		"doubts only behind it":        {[]int{never, sure, perhaps}, sift.Verdict{Rule: 1}},
		"as many doubts as there are":  {slices.Repeat([]int{perhaps}, 32), sift.Verdict{Rule: -1, Doubts: numbers(32)}},
		"as many doubts, and one rule": {append(slices.Repeat([]int{perhaps}, 31), sure), sift.Verdict{Rule: 31, Doubts: numbers(31)}},
	} {
		var l []sift.Node
		for _, state := range x.states {
			l = append(l, mustCond(t, texts[state]))
		}
		if got := mustJudge(t, named(l...), s)[0][1]; !sameVerdict(got, x.want) {
			t.Errorf("%s: %v, want %v", what, got, x.want)
		}
	}
}

// numbers returns those from 0 on.
func numbers(count int) []int {
	var l []int
	for i := range count {
		l = append(l, i)
	}
	return l
}

// P4.4: the examples of the chapter.
func TestJudgeExamples(t *testing.T) {
	v := mustJudge(t, mustRead(t, "a: match < 920; b: kind = 2; c: true;"), example())
	if want := (sift.Verdict{Rule: 1, Doubts: []int{0}}); !sameVerdict(v[0][1], want) {
		t.Errorf("the ray 0, gate 1: %v", v[0][1])
	}
	if want := (sift.Verdict{Rule: 2}); !sameVerdict(v[0][0], want) {
		t.Errorf("the ray 0, gate 0: %v", v[0][0])
	}
}

// P4.4, P4.9, G3: the verdict on each gate is what Test says of the rules, and
// Clean strikes out just those gates of which a rule is Sure.
func TestReasons(t *testing.T) {
	n := &noise{state: 51}
	struck := map[bool]int{}
	for range 300 {
		s, l := n.sweep(1, 1+n.upTo(3)), n.rules(n.upTo(4), 4)
		v := mustJudge(t, l, s)
		clean, e := sift.Clean(l, s)
		wantErr(t, "Clean", e, api.OK)
		for _, at := range places(s) {
			got := v[at.ray][at.gate]
			if want := wantVerdict(l, s, at); !sameVerdict(got, want) {
				t.Fatalf("%s at %v of %v: %v, want %v", wantText(l), at, s, got, want)
			}
			first := -1
			for i, r := range l {
				if first < 0 && mustTest(t, r.When, s, at) == sure {
					first = i
				}
			}
			want := s.Rays[at.ray][at.gate]
			if first >= 0 {
				want = api.Echo{Kind: api.Quiet}
			}
			if got.Rule != first || clean.Rays[at.ray][at.gate] != want {
				t.Fatalf("%s at %v of %v: %v and %v, want %d and %v", wantText(l), at, s, got, clean.Rays[at.ray][at.gate], first, want)
			}
			struck[first >= 0]++
		}
		if clean.Site != s.Site || clean.Tilt != s.Tilt || clean.Time != s.Time || len(clean.Rays) != len(s.Rays) {
			t.Fatalf("Clean of %v: %v", s, clean)
		}
	}
	if struck[true] < 100 || struck[false] < 100 {
		t.Errorf("struck out: %v", struck)
	}
}

// P4.4: the sweep that is cleaned has the same site, tilt and time, and gates
// that are struck out have nothing but their kind.
func TestClean(t *testing.T) {
	s := example()
	s.Tilt, s.Time = 256, api.MaxTime
	s.Site = api.Site{Name: "far", X: -5, Y: 7, Z: 9, Rose: 1, Gates: 2, Step: 100, Width: 8}
	for text, want := range map[string]map[place]api.Echo{
		"":                            {{0, 0}: quiet(5), {0, 1}: s.Rays[0][1], {3, 1}: quiet(5)},
		"a: true;":                    {{0, 0}: quiet(0), {0, 1}: quiet(0), {3, 1}: quiet(0)},
		"a: false; b: power > 9;":     {{0, 0}: quiet(5), {0, 1}: quiet(0), {3, 1}: quiet(5)},
		"a: power > 15;":              {{0, 0}: quiet(5), {0, 1}: s.Rays[0][1], {3, 1}: quiet(5)},
		"a: power > 15; b: gate = 1;": {{0, 0}: quiet(5), {0, 1}: quiet(0), {3, 1}: quiet(0)},
	} {
		got, e := sift.Clean(mustRead(t, text), s)
		if e != api.OK || got.Site != s.Site || got.Tilt != 256 || got.Time != api.MaxTime || len(got.Rays) != 4 {
			t.Errorf("%s: %v, error %d", text, got, e)
		}
		for at, x := range want {
			if got.Rays[at.ray][at.gate] != x {
				t.Errorf("%s: %v at %v, want %v", text, got.Rays[at.ray][at.gate], at, x)
			}
		}
	}
}

// P4.9: rules behind the first one that is Sure have no effect.
func TestRulesBehind(t *testing.T) {
	n := &noise{state: 52}
	for range 100 {
		s, l := n.sweep(1, 3), n.rules(4, 3)
		before := mustJudge(t, l, s)
		for cut := range 4 {
			others := named(append(conds(l[:cut+1]), conds(n.rules(3, 3))...)...)
			after := mustJudge(t, others, s)
			for _, at := range places(s) {
				x := before[at.ray][at.gate]
				if 0 <= x.Rule && x.Rule <= cut && !sameVerdict(x, after[at.ray][at.gate]) {
					t.Fatalf("%s and %s at %v: %v and %v", wantText(l), wantText(others), at, x, after[at.ray][at.gate])
				}
			}
		}
	}
}

// conds returns the conditions of rules.
func conds(l []sift.Rule) []sift.Node {
	var all []sift.Node
	for _, r := range l {
		all = append(all, r.When)
	}
	return all
}

// narrower returns a sweep whose echoes lie within those of another one.
func (n *noise) narrower(s api.Sweep) api.Sweep {
	var rays [][]api.Echo
	for _, ray := range s.Rays {
		var l []api.Echo
		for _, x := range ray {
			l = append(l, n.within(x))
		}
		rays = append(rays, l)
	}
	s.Rays = rays
	s.Time = n.upTo(1000)
	return s
}

// within returns an echo within another one.
func (n *noise) within(x api.Echo) api.Echo {
	if x.Kind == api.Quiet {
		x.Power.Hi = n.upTo(x.Power.Hi)
		return x
	}
	x.Power, x.Ratio, x.Match = n.inside(x.Power), n.inside(x.Ratio), n.inside(x.Match)
	if x.Kind == api.Clear {
		x.Steps = [2]api.Span{n.inside(x.Steps[0]), n.inside(x.Steps[1])}
		x.Turn = n.inside(x.Turn)
	}
	return x
}

// points returns a sweep with points for the spans of another one.
func (n *noise) points(s api.Sweep) api.Sweep {
	s = n.narrower(s)
	for _, ray := range s.Rays {
		for i := range ray {
			x := &ray[i]
			if x.Kind == api.Quiet {
				x.Power = pt(0)
				continue
			}
			x.Power, x.Ratio, x.Match, x.Turn = pt(x.Power.Lo), pt(x.Ratio.Hi), pt(x.Match.Lo), pt(x.Turn.Hi)
			x.Steps = [2]api.Span{pt(x.Steps[0].Lo), pt(x.Steps[1].Hi)}
		}
	}
	return s
}

// P4.7, G1, G3: what is Sure or Never remains so with echoes within the others,
// values lie within, and a rule is one of the doubts before, or the same.
func TestTruth(t *testing.T) {
	n := &noise{state: 53}
	count := map[int]int{}
	for range 150 {
		wide, l := n.sweep(1, 1+n.upTo(3)), n.rules(4, 4)
		narrow := n.narrower(wide)
		before, after := mustJudge(t, l, wide), mustJudge(t, l, narrow)
		c, v := n.cond(4), n.value(3)
		for _, at := range places(wide) {
			x, y := before[at.ray][at.gate], after[at.ray][at.gate]
			if y.Rule != x.Rule && !slices.Contains(x.Doubts, y.Rule) {
				t.Fatalf("%s at %v: %v, and within %v", wantText(l), at, x, y)
			}
			for _, i := range y.Doubts {
				if !slices.Contains(x.Doubts, i) {
					t.Fatalf("%s at %v: %v, and within %v", wantText(l), at, x, y)
				}
			}
			a, b := mustTest(t, c, wide, at), mustTest(t, c, narrow, at)
			count[a]++
			if a != perhaps && a != b {
				t.Fatalf("%s at %v: %d, and within %d", wantWords(c), at, a, b)
			}
			outer, is, _ := sift.Value(v, wide, at.ray, at.gate)
			inner, isStill, _ := sift.Value(v, narrow, at.ray, at.gate)
			if is != isStill || inner.Lo < outer.Lo || inner.Hi > outer.Hi {
				t.Fatalf("%s at %v: %v, and within %v", wantWords(v), at, outer, inner)
			}
		}
	}
	if count[sure] < 100 || count[perhaps] < 100 || count[never] < 100 {
		t.Errorf("only %v", count)
	}
}

// P4.8: nothing is Perhaps if all spans are points.
func TestPoints(t *testing.T) {
	n := &noise{state: 54}
	for range 200 {
		s, l := n.points(n.sweep(1, 1+n.upTo(3))), n.rules(4, 4)
		c, v := n.cond(4), n.value(3)
		for ray, row := range mustJudge(t, l, s) {
			for gate, x := range row {
				if len(x.Doubts) > 0 {
					t.Fatalf("%s at %d, %d: %v", wantText(l), ray, gate, x)
				}
				if got := mustTest(t, c, s, place{ray, gate}); got != sure && got != never {
					t.Fatalf("%s at %d, %d: %d", wantWords(c), ray, gate, got)
				}
				if got, _, _ := sift.Value(v, s, ray, gate); got.Lo != got.Hi {
					t.Fatalf("%s at %d, %d: %v", wantWords(v), ray, gate, got)
				}
			}
		}
	}
}

// isFar reports whether a gate is farther away from another one than some rays,
// in both directions around, or than some gates.
func isFar(s api.Sweep, a, b place, rays, gates int) bool {
	around := (a.ray - b.ray + len(s.Rays)) % len(s.Rays)
	return min(around, len(s.Rays)-around) > rays || max(a.gate-b.gate, b.gate-a.gate) > gates
}

// P4.11: a verdict does not change with gates beyond the reach of the rules.
func TestNear(t *testing.T) {
	n := &noise{state: 55}
	changed := 0
	for range 300 {
		s, other := n.sweep(3, 9), n.sweep(3, 9)
		l := n.rules(1+n.upTo(1), 3+n.upTo(1))
		rays, gates, e := sift.Reach(l)
		wantErr(t, "Reach", e, api.OK)
		at := place{n.upTo(11), n.of(0, 4, 8)}
		for _, p := range places(s) {
			if !isFar(s, at, p, rays, gates) {
				other.Rays[p.ray][p.gate] = s.Rays[p.ray][p.gate]
			} else {
				changed++
			}
		}
		other.Tilt = s.Tilt
		a, b := mustJudge(t, l, s)[at.ray][at.gate], mustJudge(t, l, other)[at.ray][at.gate]
		if !sameVerdict(a, b) {
			t.Fatalf("%s, %d rays, %d gates, at %v: %v and %v", wantText(l), rays, gates, at, a, b)
		}
	}
	if changed < 1000 {
		t.Errorf("only %d gates were changed", changed)
	}
}

// hasRay reports whether a tree has the number of the ray.
func hasRay(n sift.Node) bool { return n.Op == sift.Ray || slices.ContainsFunc(n.Args, hasRay) }

// P4.11: verdicts go with rays that are numbered from another one on.
func TestTurned(t *testing.T) {
	n := &noise{state: 56}
	for range 200 {
		s, l := n.sweep(1+n.upTo(1), 1+n.upTo(3)), n.rules(2, 4)
		if slices.ContainsFunc(conds(l), hasRay) {
			continue
		}
		by := 1 + n.upTo(len(s.Rays)-2)
		turned := s
		turned.Rays = slices.Concat(s.Rays[by:], s.Rays[:by])
		before, after := mustJudge(t, l, s), mustJudge(t, l, turned)
		for _, at := range places(s) {
			x, y := before[(at.ray+by)%len(s.Rays)][at.gate], after[at.ray][at.gate]
			if !sameVerdict(x, y) {
				t.Fatalf("%s at %v, from the ray %d on: %v and %v", wantText(l), at, by, x, y)
			}
		}
	}
}
