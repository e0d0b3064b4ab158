package sift_test

import (
	"math"
	"slices"
	"testing"

	"radome/api"
	"radome/sift"
)

// P0, R2: any trees, gates and sweeps.
func TestAnyTrees(t *testing.T) {
	for _, a := range extremes() {
		for _, b := range extremes() {
			for op := -1; op <= 29; op++ {
				n := sift.Node{Op: op, Value: a, Rays: b, Gates: a, Args: []sift.Node{{Op: b, Rays: a}, {Op: a, Value: b}}}
				for _, args := range [][]sift.Node{n.Args, n.Args[:1], nil} {
					n.Args = args
					checkZero(t, named(n, leaf(a)), n, example(), a, b)
				}
			}
			s := example()
			s.Site.Rose, s.Site.Gates, s.Tilt = a, b, a
			checkZero(t, named(leaf(sift.True)), num(1), s, a, b)
			s = example()
			s.Rays[3][1] = api.Echo{Kind: api.Quiet, Power: span(a, b), Spread: a, Match: span(b, a)}
			checkZero(t, named(leaf(sift.True)), num(1), s, 0, 0)
			checkZero(t, named(leaf(sift.True)), num(1), example(), a, b)
		}
	}
	checkZero(t, named(ring(), thick()), ring(), api.Sweep{}, 0, 0)
	checkZero(t, named(thick()), thick(), example(), 0, 0)
}

// checkZero checks that with an error all other results are zero values.
func checkZero(t *testing.T, l []sift.Rule, n sift.Node, s api.Sweep, ray, gate int) {
	t.Helper()
	text, e1 := sift.Print(l)
	rays, gates, e2 := sift.Reach(l)
	plain, e3 := sift.Plain(l)
	verdicts, e4 := sift.Judge(l, s)
	clean, e5 := sift.Clean(l, s)
	state, e6 := sift.Test(n, s, ray, gate)
	value, is, e7 := sift.Value(n, s, ray, gate)
	if e1 != api.OK && text != "" || e2 != api.OK && rays+gates != 0 || e3 != api.OK && plain != nil {
		t.Errorf("%q %d, %d %d %d, %v %d", text, e1, rays, gates, e2, plain, e3)
	}
	if e4 != api.OK && verdicts != nil || e5 != api.OK && !sameSweep(clean, api.Sweep{}) {
		t.Errorf("%v %d, %v %d", verdicts, e4, clean, e5)
	}
	if e6 != api.OK && state != 0 || e7 != api.OK && (is || value != api.Span{}) {
		t.Errorf("%d %d, %v %v %d", state, e6, value, is, e7)
	}
}

// P0, R2: any texts: all bytes in all places of one.
func TestAnyTexts(t *testing.T) {
	text := "a: some 1 2 (power + 10 >= 3) or count 0 0 not true != 5;"
	for i := range len(text) + 1 {
		for b := range 256 {
			for _, s := range []string{text[:i] + string([]byte{byte(b)}) + text[i:], text[:i] + string([]byte{byte(b)})} {
				l, at, e := sift.Read(s)
				want, isFault := wantFault(s)
				if at != want || isFault != (e == api.ErrForm) || e != api.OK && l != nil {
					t.Fatalf("%q: %v, error %d at %d, want %d", s, l, e, at, want)
				}
			}
		}
	}
}

// large is a sweep as large as one can be.
func large() api.Sweep {
	s := api.Sweep{Site: api.Site{Name: "s", Rose: 90, Gates: 200, Step: 1000}}
	for ray := range 360 {
		var l []api.Echo
		for gate := range 200 {
			l = append(l, quiet((ray*ray*7+gate*gate*13)%101))
		}
		s.Rays = append(s.Rays, l)
	}
	return s
}

// P0, P4.3, P4.4: rules with as many nodes and levels as there may be, for as
// many gates as there may be: what neighbors are asked for again and again is
// found in time.
func TestLarge(t *testing.T) {
	s := large()
	var l []sift.Node
	for k := range 23 {
		c := over(sift.Lt, leaf(sift.Power), num(k))
		for level := range 9 {
			c = near(sift.Some+(level+k)%2, 3, 3, c)
		}
		l = append(l, not(c))
	}
	wantErr(t, "299 nodes", sift.Check(named(l...)), api.OK)
	mustJudge(t, named(l...), s)
	c := near(sift.All, 3, 3, near(sift.Some, 3, 3, strong(99)))
	for _, at := range []place{{0, 0}, {0, 199}, {359, 0}, {359, 199}, {1, 100}, {358, 3}} {
		if got, want := mustTest(t, c, s, at), wantState(c, s, at); got != want {
			t.Errorf("at %v: %d, want %d", at, got, want)
		}
		n, is, e := sift.Value(near(sift.Count, 3, 3, strong(60)), s, at.ray, at.gate)
		if want := wantCount(wantAround(near(sift.Count, 3, 3, strong(60)), s, at)); e != api.OK || !is || n != want {
			t.Errorf("at %v: %v, want %v", at, n, want)
		}
	}
	_, e := sift.Test(c, s, 360, 0)
	wantErr(t, "a ray too high", e, api.ErrNone)
	_, e = sift.Test(c, s, math.MaxInt, math.MinInt)
	wantErr(t, "a ray far too high", e, api.ErrNone)
}

// P4.3, P4.4: from neighbor to neighbor, as far as rules reach.
func TestFar(t *testing.T) {
	s := large()
	loud := place{358, 30}
	s.Rays[loud.ray][loud.gate] = api.Echo{Kind: api.Mixed, Power: pt(1000)}
	c := strong(999)
	for range 10 {
		c = near(sift.Some, 3, 3, c)
	}
	for ray, row := range mustJudge(t, named(c), s) {
		for gate, x := range row {
			if isFar(s, place{ray, gate}, loud, 30, 30) != (x.Rule < 0) {
				t.Fatalf("the ray %d, gate %d: %v", ray, gate, x)
			}
		}
	}
}

// R3: nil lists and empty ones are the same.
func TestEmptyLists(t *testing.T) {
	yes := sift.Node{Op: sift.True, Args: []sift.Node{}}
	l := []sift.Rule{rule("a", not(yes))}
	if s := mustPrint(t, l); s != "a: not true;\n" {
		t.Errorf("%q", s)
	}
	if p := mustPlain(t, l); !sameRules(p, []sift.Rule{rule("a", leaf(sift.False))}) {
		t.Errorf("%v", p)
	}
	for _, l := range [][]sift.Rule{nil, {}} {
		v := mustJudge(t, l, example())
		if !sameVerdict(v[3][1], sift.Verdict{Rule: -1}) || sift.Check(l) != api.OK {
			t.Errorf("no rules: %v", v)
		}
	}
}

// R4: arguments stay as they are, and results share no memory.
func TestNewMemory(t *testing.T) {
	text := "a: some 1 1 power > 1 and true; b: count 1 0 (kind = 1 or ray > 2) > 1; c: power > 0;"
	l, s := mustRead(t, text), example()
	clean, e := sift.Clean(nil, s)
	wantErr(t, "Clean", e, api.OK)
	v := mustJudge(t, l, s)
	again := mustJudge(t, l, s)
	p := mustPlain(t, l)
	sift.Clean(mustRead(t, "a: true;"), s)
	if !sameRules(l, mustRead(t, text)) || !sameSweep(s, example()) {
		t.Fatalf("rules or a sweep are changed: %v, %v", l, s)
	}
	for _, ray := range clean.Rays {
		clear(ray)
	}
	for _, r := range p {
		spoil(r.When)
	}
	for _, row := range v {
		for _, x := range row {
			clear(x.Doubts)
			_ = append(x.Doubts, 77)
		}
	}
	if !sameRules(l, mustRead(t, text)) || !sameSweep(s, example()) {
		t.Fatalf("results share memory: %v, %v", l, s)
	}
	for ray, row := range mustJudge(t, l, s) {
		for gate, x := range row {
			if !sameVerdict(x, again[ray][gate]) {
				t.Fatalf("verdicts share memory: %v, %v", x, again[ray][gate])
			}
		}
	}
}

// spoil overwrites all nodes of a tree below its root.
func spoil(n sift.Node) {
	for _, a := range n.Args {
		spoil(a)
	}
	clear(n.Args)
}

// R4: a part of a result does not share memory with another part of it.
func TestPartsApart(t *testing.T) {
	same := over(sift.And, strong(1), strong(2))
	p := mustPlain(t, named(same, over(sift.Or, same, same), not(not(same))))
	want := wantText(p[1:2])
	spoil(p[0].When)
	spoil(p[2].When)
	if s := wantText(p[1:2]); s != want {
		t.Errorf("rules share memory: %s", s)
	}
	spoil(p[1].When.Args[0])
	if s := wantWords(p[1].When.Args[1]); s != wantWords(same) {
		t.Errorf("nodes share memory: %s", s)
	}
	v := mustJudge(t, named(strong(3), strong(4)), example())
	for _, row := range v {
		for _, x := range row {
			x.Doubts = append(x.Doubts, 77)
			clear(x.Doubts)
		}
		break
	}
	if !slices.Equal(v[3][1].Doubts, []int{0, 1}) || !slices.Equal(v[1][0].Doubts, []int{0, 1}) {
		t.Errorf("verdicts share memory: %v", v)
	}
}
