package sift_test

import (
	"math"
	"reflect"
	"slices"
	"strconv"
	"testing"

	"radome/api"
	"radome/sift"
)

// The functions named want.. follow the definitions of the chapter word by
// word, so that they share nothing with the package.

// leaf is a node with nothing but its operation.
func leaf(op int) sift.Node { return sift.Node{Op: op} }

func num(n int) sift.Node { return sift.Node{Op: sift.Number, Value: n} }

// over is a node with others below it.
func over(op int, args ...sift.Node) sift.Node { return sift.Node{Op: op, Args: args} }

// near is a node that asks neighbors.
func near(op, rays, gates int, a sift.Node) sift.Node {
	return sift.Node{Op: op, Rays: rays, Gates: gates, Args: []sift.Node{a}}
}

func not(a sift.Node) sift.Node { return over(sift.Not, a) }

// strong is the condition that the power is above a number.
func strong(n int) sift.Node { return over(sift.Gt, leaf(sift.Power), num(n)) }

// nots returns a condition below as many Nots.
func nots(count int, c sift.Node) sift.Node {
	for range count {
		c = not(c)
	}
	return c
}

func rule(name string, c sift.Node) sift.Rule { return sift.Rule{Name: name, When: c} }

// named returns one rule for each condition: a0, a1, and so on.
func named(l ...sift.Node) []sift.Rule {
	var rules []sift.Rule
	for i, c := range l {
		rules = append(rules, rule("a"+strconv.Itoa(i), c))
	}
	return rules
}

func span(lo, hi int) api.Span { return api.Span{Lo: lo, Hi: hi} }

func pt(n int) api.Span { return span(n, n) }

func quiet(most int) api.Echo { return api.Echo{Kind: api.Quiet, Power: span(0, most)} }

// example is the sweep S of the chapter.
func example() api.Sweep {
	s := api.Sweep{Site: api.Site{Name: "s", Rose: 1, Gates: 2, Step: 1000}, Tilt: 3}
	for range 4 {
		s.Rays = append(s.Rays, []api.Echo{quiet(5), quiet(5)})
	}
	s.Rays[0][1] = api.Echo{Kind: api.Mixed, Power: span(10, 20), Ratio: pt(100), Match: span(900, 950), Spread: 7}
	return s
}

// extremes are numbers that no argument may be spoiled by.
func extremes() []int {
	return []int{math.MinInt, math.MinInt + 1, -1 << 32, -1, 0, 1, 2, 3, 1000, 1 << 32, math.MaxInt - 1, math.MaxInt}
}

// noise yields numbers that look like random ones, and are always the same.
type noise struct{ state uint64 }

func (n *noise) upTo(most int) int {
	n.state = n.state*6364136223846793005 + 1442695040888963407
	return int(n.state>>33) % (most + 1)
}

func (n *noise) of(l ...int) int { return l[n.upTo(len(l)-1)] }

func (n *noise) inside(outer api.Span) api.Span {
	lo := outer.Lo + n.upTo(outer.Hi-outer.Lo)
	return span(lo, lo+n.upTo(outer.Hi-lo))
}

// echo returns one of any kind. Its numbers are small, so that comparisons of
// them come out in all ways.
func (n *noise) echo() api.Echo {
	x := api.Echo{Kind: 1 + n.upTo(2), Power: n.inside(span(1, 6))}
	if x.Kind == api.Quiet {
		x.Power.Lo = 0
		return x
	}
	x.Ratio, x.Match, x.Spread = n.inside(span(0, 5)), n.inside(span(0, 5)), n.upTo(5)
	if x.Kind == api.Clear {
		x.Steps = [2]api.Span{n.inside(span(-3, 5)), n.inside(span(-9, 9))}
		x.Turn = n.inside(span(-3, 5))
	}
	return x
}

func (n *noise) sweep(rose, gates int) api.Sweep {
	s := api.Sweep{Site: api.Site{Name: "s", Rose: rose, Gates: gates, Step: 1000}, Tilt: n.upTo(5)}
	for range 4 * rose {
		var ray []api.Echo
		for range gates {
			ray = append(ray, n.echo())
		}
		s.Rays = append(s.Rays, ray)
	}
	return s
}

// cond returns a condition with at most some levels of nodes, and at least two.
func (n *noise) cond(levels int) sift.Node {
	if levels <= 2 {
		if n.upTo(9) == 0 {
			return leaf(n.of(sift.True, sift.False))
		}
		return over(sift.Lt+n.upTo(5), n.value(1), n.value(1))
	}
	switch op := sift.Not + n.upTo(10); op {
	case sift.Not:
		return not(n.cond(levels - 1))
	case sift.And, sift.Or:
		return over(op, n.cond(levels-1), n.cond(levels-1))
	case sift.Some, sift.All:
		return near(op, n.upTo(3), n.upTo(3), n.cond(levels-1))
	default:
		return over(op, n.value(levels-1), n.value(levels-1))
	}
}

// value returns a value with at most some levels of nodes.
func (n *noise) value(levels int) sift.Node {
	switch {
	case levels > 2 && n.upTo(2) == 0:
		return near(sift.Count, n.upTo(3), n.upTo(3), n.cond(levels-1))
	case levels > 1 && n.upTo(1) == 0:
		b := n.value(levels - 1)
		for b.Op == sift.Add || b.Op == sift.Sub {
			b = b.Args[1]
		}
		return over(n.of(sift.Add, sift.Sub), n.value(levels-1), b)
	case n.upTo(2) == 0:
		return num(n.upTo(6))
	}
	return leaf(n.of(sift.Power, sift.Ratio, sift.Match, sift.Spread, sift.Turn, sift.Step, sift.Kind, sift.Ray, sift.Gate, sift.Tilt))
}

// rules returns some rules, with the names a0, a1, and so on.
func (n *noise) rules(count, levels int) []sift.Rule {
	var l []sift.Node
	for range count {
		l = append(l, n.cond(levels))
	}
	return named(l...)
}

// place is a gate of a ray.
type place struct{ ray, gate int }

// wantNear returns the neighbors of a gate: of all gates those that the chapter
// says.
func wantNear(s api.Sweep, at place, rays, gates int) []place {
	var l []place
	for ray := range s.Rays {
		isNear := false
		for d := -rays; d <= rays; d++ {
			isNear = isNear || (at.ray+d+4*len(s.Rays))%len(s.Rays) == ray
		}
		for gate := range s.Rays[ray] {
			far := gate-at.gate > gates || at.gate-gate > gates
			if isNear && !far && (place{ray, gate}) != at {
				l = append(l, place{ray, gate})
			}
		}
	}
	return l
}

// wantState returns what a condition is for a gate.
func wantState(c sift.Node, s api.Sweep, at place) int {
	switch c.Op {
	case sift.True:
		return sift.Sure
	case sift.False:
		return sift.Never
	case sift.Not:
		return []int{0, sift.Never, sift.Perhaps, sift.Sure}[wantState(c.Args[0], s, at)]
	case sift.And:
		return wantAll([]int{wantState(c.Args[0], s, at), wantState(c.Args[1], s, at)})
	case sift.Or:
		return wantSome([]int{wantState(c.Args[0], s, at), wantState(c.Args[1], s, at)})
	case sift.Some:
		return wantSome(wantAround(c, s, at))
	case sift.All:
		return wantAll(wantAround(c, s, at))
	}
	a, isA := wantValue(c.Args[0], s, at)
	b, isB := wantValue(c.Args[1], s, at)
	if !isA || !isB {
		return sift.Never
	}
	return wantCompared(c.Op, a, b)
}

// wantAround returns what the condition below a node is for the neighbors.
func wantAround(c sift.Node, s api.Sweep, at place) []int {
	var l []int
	for _, p := range wantNear(s, at, c.Rays, c.Gates) {
		l = append(l, wantState(c.Args[0], s, p))
	}
	return l
}

func wantSome(l []int) int {
	if slices.Contains(l, sift.Sure) {
		return sift.Sure
	}
	if slices.Contains(l, sift.Perhaps) {
		return sift.Perhaps
	}
	return sift.Never
}

func wantAll(l []int) int {
	if slices.Contains(l, sift.Never) {
		return sift.Never
	}
	if slices.Contains(l, sift.Perhaps) {
		return sift.Perhaps
	}
	return sift.Sure
}

// wantCompared returns what a comparison is, by all integers of both spans.
func wantCompared(op int, a, b api.Span) int {
	var holds, fails bool
	for x := a.Lo; x <= a.Hi; x++ {
		for y := b.Lo; y <= b.Hi; y++ {
			if map[int]bool{sift.Lt: x < y, sift.Le: x <= y, sift.Gt: x > y, sift.Ge: x >= y, sift.Eq: x == y, sift.Ne: x != y}[op] {
				holds = true
			} else {
				fails = true
			}
		}
	}
	switch {
	case !fails:
		return sift.Sure
	case !holds:
		return sift.Never
	}
	return sift.Perhaps
}

// wantValue returns what a value is for a gate, and whether there is one.
func wantValue(v sift.Node, s api.Sweep, at place) (api.Span, bool) {
	x := s.Rays[at.ray][at.gate]
	switch v.Op {
	case sift.Count:
		return wantCount(wantAround(v, s, at)), true
	case sift.Add, sift.Sub:
		return wantSum(v, s, at)
	case sift.Power:
		return x.Power, true
	case sift.Ratio, sift.Match, sift.Spread:
		return map[int]api.Span{sift.Ratio: x.Ratio, sift.Match: x.Match, sift.Spread: pt(x.Spread)}[v.Op], x.Kind != api.Quiet
	case sift.Turn, sift.Step:
		return map[int]api.Span{sift.Turn: x.Turn, sift.Step: x.Steps[0]}[v.Op], x.Kind == api.Clear
	}
	return pt(map[int]int{sift.Number: v.Value, sift.Kind: x.Kind, sift.Ray: at.ray, sift.Gate: at.gate, sift.Tilt: s.Tilt}[v.Op]), true
}

func wantCount(l []int) api.Span {
	n := span(0, len(l))
	for _, x := range l {
		if x == sift.Sure {
			n.Lo++
		}
		if x == sift.Never {
			n.Hi--
		}
	}
	return n
}

func wantSum(v sift.Node, s api.Sweep, at place) (api.Span, bool) {
	a, isA := wantValue(v.Args[0], s, at)
	b, isB := wantValue(v.Args[1], s, at)
	if !isA || !isB {
		return api.Span{}, false
	}
	if v.Op == sift.Sub {
		b = span(-b.Hi, -b.Lo)
	}
	return span(a.Lo+b.Lo, a.Hi+b.Hi), true
}

// wantVerdict returns the verdict on a gate.
func wantVerdict(l []sift.Rule, s api.Sweep, at place) sift.Verdict {
	v := sift.Verdict{Rule: -1}
	for i, r := range l {
		x := wantState(r.When, s, at)
		if x == sift.Sure {
			v.Rule = i
			break
		}
		if x == sift.Perhaps {
			v.Doubts = append(v.Doubts, i)
		}
	}
	return v
}

// places returns all gates of a sweep.
func places(s api.Sweep) []place {
	var l []place
	for ray := range s.Rays {
		for gate := range s.Rays[ray] {
			l = append(l, place{ray, gate})
		}
	}
	return l
}

// bare returns rules whose empty lists are nil, as there is no difference.
func bare(l []sift.Rule) []sift.Rule {
	var all []sift.Rule
	for _, r := range l {
		all = append(all, rule(r.Name, bareNode(r.When)))
	}
	return all
}

func bareNode(n sift.Node) sift.Node {
	var args []sift.Node
	for _, a := range n.Args {
		args = append(args, bareNode(a))
	}
	n.Args = args
	return n
}

func sameRules(a, b []sift.Rule) bool { return reflect.DeepEqual(bare(a), bare(b)) }

func sameVerdict(a, b sift.Verdict) bool { return a.Rule == b.Rule && slices.Equal(a.Doubts, b.Doubts) }

func sameSweep(a, b api.Sweep) bool { return reflect.DeepEqual(a, b) }

func mustRead(t *testing.T, s string) []sift.Rule {
	t.Helper()
	l, at, e := sift.Read(s)
	if e != api.OK || at != 0 {
		t.Fatalf("Read(%q): error %d at %d", s, e, at)
	}
	return l
}

// mustCond returns the condition of the rule that a text is with a name.
func mustCond(t *testing.T, s string) sift.Node {
	t.Helper()
	return mustRead(t, "a: "+s+";")[0].When
}

// mustAmount returns the value that a text is.
func mustAmount(t *testing.T, s string) sift.Node {
	t.Helper()
	return mustCond(t, s+" = 0").Args[0]
}

func mustPrint(t *testing.T, l []sift.Rule) string {
	t.Helper()
	s, e := sift.Print(l)
	if e != api.OK {
		t.Fatalf("Print(%v): error %d", l, e)
	}
	return s
}

func mustTest(t *testing.T, c sift.Node, s api.Sweep, at place) int {
	t.Helper()
	x, e := sift.Test(c, s, at.ray, at.gate)
	if e != api.OK {
		t.Fatalf("Test(%v) at %v: error %d", c, at, e)
	}
	return x
}

func mustJudge(t *testing.T, l []sift.Rule, s api.Sweep) [][]sift.Verdict {
	t.Helper()
	v, e := sift.Judge(l, s)
	if e != api.OK || len(v) != len(s.Rays) {
		t.Fatalf("Judge(%v): %d rays, error %d", l, len(v), e)
	}
	for ray, row := range v {
		if len(row) != s.Site.Gates {
			t.Fatalf("Judge(%v): the ray %d has %d gates", l, ray, len(row))
		}
	}
	return v
}

func mustPlain(t *testing.T, l []sift.Rule) []sift.Rule {
	t.Helper()
	p, e := sift.Plain(l)
	if e != api.OK || len(p) != len(l) {
		t.Fatalf("Plain(%v): %v, error %d", l, p, e)
	}
	return p
}

func wantErr(t *testing.T, what string, got, want api.Errno) {
	t.Helper()
	if got != want {
		t.Errorf("%s: error %d, want %d", what, got, want)
	}
}

// checkLimits checks that a number is valid from the least one to the most.
func checkLimits(t *testing.T, what string, least, most int, check func(n int) api.Errno) {
	t.Helper()
	for n, want := range map[int]api.Errno{
		least: api.OK, most: api.OK,
		least - 1: api.ErrArg, most + 1: api.ErrArg, math.MinInt: api.ErrArg, math.MaxInt: api.ErrArg,
	} {
		if e := check(n); e != want {
			t.Errorf("%s %d: error %d, want %d", what, n, e, want)
		}
	}
}
