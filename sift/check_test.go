package sift_test

import (
	"slices"
	"strings"
	"testing"

	"radome/api"
	"radome/sift"
)

// conditions and values are the kinds of nodes that are conditions, and values.
func conditions() []int {
	return []int{sift.True, sift.False, sift.Not, sift.And, sift.Or, sift.Some, sift.All, sift.Lt, sift.Le, sift.Gt, sift.Ge, sift.Eq, sift.Ne}
}

func values() []int {
	return []int{sift.Number, sift.Power, sift.Ratio, sift.Match, sift.Spread, sift.Turn, sift.Step, sift.Kind, sift.Ray, sift.Gate, sift.Tilt, sift.Count, sift.Add, sift.Sub}
}

// wantArgs returns how many conditions, and how many values, a node has.
func wantArgs(op int) (conds, vals int) {
	switch op {
	case sift.Not, sift.Some, sift.All, sift.Count:
		return 1, 0
	case sift.And, sift.Or:
		return 2, 0
	case sift.Lt, sift.Le, sift.Gt, sift.Ge, sift.Eq, sift.Ne, sift.Add, sift.Sub:
		return 0, 2
	}
	return 0, 0
}

func asksNeighbors(op int) bool { return op == sift.Some || op == sift.All || op == sift.Count }

// sample returns a valid node of a kind.
func sample(op int) sift.Node {
	n := leaf(op)
	conds, vals := wantArgs(op)
	for range conds {
		n.Args = append(n.Args, leaf(sift.True))
	}
	for range vals {
		n.Args = append(n.Args, leaf(sift.Power))
	}
	return n
}

// condOf returns a condition with a node in it, which is a condition or a value.
func condOf(n sift.Node) sift.Node {
	if slices.Contains(values(), n.Op) {
		return over(sift.Eq, n, num(0))
	}
	return n
}

// checkNode returns the error of Check for a rule with a node in it, which is
// to be that of Test, and for values that of Value.
func checkNode(t *testing.T, n sift.Node) api.Errno {
	t.Helper()
	c := condOf(n)
	e := sift.Check(named(c))
	_, e2 := sift.Test(c, example(), 0, 0)
	wantErr(t, "Test instead of Check", e2, e)
	if slices.Contains(values(), n.Op) {
		_, _, e2 := sift.Value(n, example(), 0, 0)
		wantErr(t, "Value instead of Check", e2, e)
	}
	return e
}

// P4.1: each kind of node has what it has, and nothing else.
func TestNodes(t *testing.T) {
	for _, op := range append(conditions(), values()...) {
		wantErr(t, "a valid node", checkNode(t, sample(op)), api.OK)
		for _, field := range []func(n *sift.Node, x int){
			func(n *sift.Node, x int) { n.Value = x },
			func(n *sift.Node, x int) { n.Rays = x },
			func(n *sift.Node, x int) { n.Gates = x },
		} {
			for _, x := range extremes() {
				n := sample(op)
				field(&n, x)
				want := api.ErrArg
				isNamed := op == sift.Number && n.Value == x && x <= 1000000000 || asksNeighbors(op) && n.Value == 0 && x <= 3
				if x == 0 || isNamed && x > 0 {
					want = api.OK
				}
				if e := checkNode(t, n); e != want {
					t.Errorf("%v: error %d, want %d", n, e, want)
				}
			}
		}
		n := sample(op)
		n.Args = append(n.Args, leaf(sift.True))
		wantErr(t, "a node below too many", checkNode(t, n), api.ErrArg)
		n.Args[len(n.Args)-1] = leaf(sift.Power)
		wantErr(t, "a value too many", checkNode(t, n), api.ErrArg)
		n = sample(op)
		n.Args = []sift.Node{}
		conds, vals := wantArgs(op)
		if want := map[bool]api.Errno{true: api.OK, false: api.ErrArg}[conds+vals == 0]; checkNode(t, n) != want {
			t.Errorf("%v: the error is not %d", n, want)
		}
		if conds+vals == 2 {
			n.Args = sample(op).Args[:1]
			wantErr(t, "a node below too few", checkNode(t, n), api.ErrArg)
		}
	}
	checkLimits(t, "a number", 0, 1000000000, func(n int) api.Errno { return sift.Check(named(condOf(num(n)))) })
	for _, op := range []int{sift.Some, sift.All, sift.Count} {
		checkLimits(t, "rays", 0, 3, func(n int) api.Errno { return sift.Check(named(condOf(near(op, n, 3, leaf(sift.True))))) })
		checkLimits(t, "gates", 0, 3, func(n int) api.Errno { return sift.Check(named(condOf(near(op, 3, n, leaf(sift.True))))) })
	}
}

// P4.1: which kind of node can stand where.
func TestNodesBelow(t *testing.T) {
	for _, op := range append(conditions(), values()...) {
		conds, vals := wantArgs(op)
		for i := range conds + vals {
			for below := -1; below <= 30; below++ {
				n := sample(op)
				n.Args[i] = sample(below)
				isCond, isValue := slices.Contains(conditions(), below), slices.Contains(values(), below)
				isSum := below == sift.Add || below == sift.Sub
				want := api.ErrArg
				if conds > 0 && isCond || vals > 0 && isValue && !(isSum && i == 1 && (op == sift.Add || op == sift.Sub)) {
					want = api.OK
				}
				if e := checkNode(t, n); e != want {
					t.Errorf("%v: error %d, want %d", n, e, want)
				}
			}
		}
	}
	for op := -1; op <= 30; op++ {
		isCond, isValue := slices.Contains(conditions(), op), slices.Contains(values(), op)
		want := map[bool]api.Errno{true: api.OK, false: api.ErrArg}
		wantErr(t, "the root of a rule", sift.Check(named(sample(op))), want[isCond])
		_, e := sift.Test(sample(op), example(), 0, 0)
		wantErr(t, "the root of a condition", e, want[isCond])
		_, _, e = sift.Value(sample(op), example(), 0, 0)
		wantErr(t, "the root of a value", e, want[isValue])
	}
	for _, op := range extremes() {
		if op < 1 || op > 13 {
			wantErr(t, "no operation", sift.Check(named(leaf(op))), api.ErrArg)
		}
	}
}

// P4.1: names, and words of the language.
func TestNames(t *testing.T) {
	for name, want := range map[string]api.Errno{
		"": api.ErrName, "a": api.OK, "z": api.OK, "a_09z": api.OK, "abcdefghijkl": api.OK, "abcdefghijklm": api.ErrName,
		"A": api.ErrName, "aB": api.ErrName, "_a": api.ErrName, "1a": api.ErrName, "a b": api.ErrName, "a:": api.ErrName, " a": api.ErrName, "a ": api.ErrName,
		"a-": api.ErrName, "aé": api.ErrName, "`": api.ErrName, "{": api.ErrName, "a`": api.ErrName, "a{": api.ErrName, "a/": api.ErrName, "#": api.ErrName,
		"<": api.ErrName, "+": api.ErrName, "0": api.ErrName, "number": api.OK, "lt": api.OK, "add": api.OK, "powe": api.OK, "powers": api.OK, "nots": api.OK,
		strings.Repeat("a", 1000): api.ErrName,
	} {
		wantErr(t, name, sift.Check([]sift.Rule{rule(name, leaf(sift.True))}), want)
	}
	for _, word := range language() {
		wantErr(t, word, sift.Check([]sift.Rule{rule(word, leaf(sift.True))}), api.ErrName)
	}
}

// language is the words of the language.
func language() []string {
	return strings.Fields("true false not and or some all count power ratio match spread turn step kind ray gate tilt")
}

// ring is a tree that has itself among its nodes, so that it has no end.
func ring() sift.Node {
	n := sift.Node{Op: sift.Not, Args: make([]sift.Node, 1)}
	n.Args[0] = n
	return n
}

// thick is a tree of few lists, but of very many nodes.
func thick() sift.Node {
	n := leaf(sift.True)
	for range 60 {
		n = over(sift.And, n, n)
	}
	return n
}

// P4.1: the errors of Check, in their order.
func TestCheckErrors(t *testing.T) {
	yes, bad := leaf(sift.True), leaf(99)
	deep := nots(11, yes)
	for what, x := range map[string]struct {
		l    []sift.Rule
		want api.Errno
	}{
		"none":                             {nil, api.OK},
		"as many rules as possible":        {named(slices.Repeat([]sift.Node{yes}, 32)...), api.OK},
		"a rule too many":                  {named(slices.Repeat([]sift.Node{yes}, 33)...), api.ErrMany},
		"a rule too many, without names":   {make([]sift.Rule, 33), api.ErrMany},
		"a rule too many, the last bad":    {append(named(slices.Repeat([]sift.Node{yes}, 32)...), rule("", bad)), api.ErrMany},
		"as many nodes as possible":        {named(slices.Repeat([]sift.Node{deep}, 25)...), api.OK},
		"a node too many":                  {named(append(slices.Repeat([]sift.Node{deep}, 25), yes)...), api.ErrMany},
		"a node too many, the first bad":   {append([]sift.Rule{rule("", bad)}, named(slices.Repeat([]sift.Node{deep}, 25)...)...), api.ErrMany},
		"all nodes below one":              {named(over(sift.And, slices.Repeat([]sift.Node{yes}, 299)...)), api.ErrArg},
		"all nodes below one, and one":     {named(over(sift.And, slices.Repeat([]sift.Node{yes}, 300)...)), api.ErrMany},
		"all nodes on a way":               {named(nots(299, yes)), api.ErrDeep},
		"all nodes on a way, and one":      {named(nots(300, yes)), api.ErrMany},
		"a tree without an end":            {named(ring()), api.ErrMany},
		"a tree of very many nodes":        {named(yes, thick()), api.ErrMany},
		"an empty name":                    {[]sift.Rule{rule("", yes)}, api.ErrName},
		"an empty name ahead of its tree":  {[]sift.Rule{rule("", nots(12, bad))}, api.ErrName},
		"a word ahead of its tree":         {[]sift.Rule{rule("not", nots(12, bad))}, api.ErrName},
		"a name twice":                     {[]sift.Rule{rule("a", yes), rule("b", yes), rule("a", yes)}, api.ErrHave},
		"a name twice ahead of its tree":   {[]sift.Rule{rule("a", yes), rule("a", nots(12, bad))}, api.ErrHave},
		"a bad name twice":                 {[]sift.Rule{rule("true", yes), rule("true", yes)}, api.ErrName},
		"a bad tree ahead of a name twice": {[]sift.Rule{rule("a", bad), rule("a", yes)}, api.ErrArg},
		"a tree that is deep":              {named(deep), api.OK},
		"a tree that is too deep":          {named(not(deep)), api.ErrDeep},
		"too deep ahead of bad":            {named(nots(12, bad)), api.ErrDeep},
		"deep and bad":                     {named(nots(11, bad)), api.ErrArg},
		"deep on the second way":           {named(over(sift.And, yes, deep)), api.ErrDeep},
		"deep on the first way":            {named(over(sift.And, deep, yes)), api.ErrDeep},
		"deep below a node with too many":  {named(over(sift.True, yes, deep)), api.ErrDeep},
		"the first rule with an error":     {named(yes, bad, not(deep)), api.ErrArg},
		"the first rule that is too deep":  {named(yes, not(deep), bad), api.ErrDeep},
		"a value":                          {named(num(5)), api.ErrArg},
		"nothing":                          {make([]sift.Rule, 1), api.ErrName},
	} {
		wantErr(t, what, sift.Check(x.l), x.want)
		checkFirst(t, what, x.l, x.want)
	}
}

// checkFirst checks that all functions with rules return the error of Check
// ahead of any other one.
func checkFirst(t *testing.T, what string, l []sift.Rule, want api.Errno) {
	t.Helper()
	text, e1 := sift.Print(l)
	rays, gates, e2 := sift.Reach(l)
	plain, e3 := sift.Plain(l)
	wantErr(t, what+": Print", e1, want)
	wantErr(t, what+": Reach", e2, want)
	wantErr(t, what+": Plain", e3, want)
	if want != api.OK && (text != "" || rays != 0 || gates != 0 || plain != nil) {
		t.Errorf("%s: %q, %d, %d, %v", what, text, rays, gates, plain)
	}
	for _, s := range []api.Sweep{example(), {}} {
		if want == api.OK && s.Rays == nil {
			want = api.ErrName
		}
		verdicts, e := sift.Judge(l, s)
		clean, e2 := sift.Clean(l, s)
		wantErr(t, what+": Judge", e, want)
		wantErr(t, what+": Clean", e2, want)
		if want != api.OK && (verdicts != nil || !sameSweep(clean, api.Sweep{})) {
			t.Errorf("%s: %v, %v", what, verdicts, clean)
		}
	}
}

// P4.3: the errors of Test and Value, in their order.
func TestTreeErrors(t *testing.T) {
	bad := example()
	bad.Rays[3][1].Kind = 4
	sum := num(1)
	for range 11 {
		sum = over(sift.Sub, sum, num(1))
	}
	yes := leaf(sift.True)
	for what, x := range map[string]struct {
		n         sift.Node
		s         api.Sweep
		ray, gate int
		cond, val api.Errno
	}{
		"nothing":                         {sift.Node{}, api.Sweep{}, -1, -1, api.ErrArg, api.ErrArg},
		"too many nodes ahead of all":     {over(99, slices.Repeat([]sift.Node{yes}, 300)...), api.Sweep{}, 9, 9, api.ErrMany, api.ErrMany},
		"as many nodes as possible":       {over(99, slices.Repeat([]sift.Node{yes}, 299)...), api.Sweep{}, 9, 9, api.ErrArg, api.ErrArg},
		"many nodes and too deep":         {nots(299, yes), api.Sweep{}, 9, 9, api.ErrDeep, api.ErrDeep},
		"a tree without an end":           {ring(), api.Sweep{}, 9, 9, api.ErrMany, api.ErrMany},
		"a tree of very many nodes":       {thick(), api.Sweep{}, 9, 9, api.ErrMany, api.ErrMany},
		"too deep ahead of bad":           {nots(12, leaf(99)), api.Sweep{}, 9, 9, api.ErrDeep, api.ErrDeep},
		"a deep condition":                {nots(11, yes), example(), 0, 0, api.OK, api.ErrArg},
		"a condition that is too deep":    {nots(12, yes), example(), 0, 0, api.ErrDeep, api.ErrDeep},
		"a deep value":                    {sum, example(), 0, 0, api.ErrArg, api.OK},
		"a value that is too deep":        {over(sift.Add, sum, num(0)), example(), 0, 0, api.ErrDeep, api.ErrDeep},
		"a bad tree ahead of the sweep":   {not(leaf(sift.Power)), api.Sweep{}, 9, 9, api.ErrArg, api.ErrArg},
		"no site ahead of no gate":        {yes, api.Sweep{}, 9, 9, api.ErrName, api.ErrArg},
		"no site, for a value":            {num(1), api.Sweep{}, 9, 9, api.ErrArg, api.ErrName},
		"a bad echo ahead of no gate":     {yes, bad, 9, 9, api.ErrArg, api.ErrArg},
		"the first gate":                  {yes, example(), 0, 0, api.OK, api.ErrArg},
		"the last gate":                   {yes, example(), 3, 1, api.OK, api.ErrArg},
		"a ray too low":                   {yes, example(), -1, 0, api.ErrNone, api.ErrArg},
		"a ray too high":                  {yes, example(), 4, 0, api.ErrNone, api.ErrArg},
		"a gate too low":                  {yes, example(), 0, -1, api.ErrNone, api.ErrArg},
		"a gate too high":                 {yes, example(), 0, 2, api.ErrNone, api.ErrArg},
		"the last gate, for a value":      {num(1), example(), 3, 1, api.ErrArg, api.OK},
		"a ray too high, for a value":     {num(1), example(), 4, 0, api.ErrArg, api.ErrNone},
		"a gate too high, for a value":    {num(1), example(), 0, 2, api.ErrArg, api.ErrNone},
		"a gate of the next ray":          {num(1), example(), 1, -1, api.ErrArg, api.ErrNone},
		"a ray that is there, far around": {num(1), example(), -4, 0, api.ErrArg, api.ErrNone},
	} {
		c, e := sift.Test(x.n, x.s, x.ray, x.gate)
		wantErr(t, what+": Test", e, x.cond)
		v, is, e2 := sift.Value(x.n, x.s, x.ray, x.gate)
		wantErr(t, what+": Value", e2, x.val)
		if e != api.OK && c != 0 || e2 != api.OK && (is || v != api.Span{}) {
			t.Errorf("%s: %d, %v, %v", what, c, v, is)
		}
	}
}

// P4.3, P4.4: the errors of pulse.CheckSweep.
func TestSweepErrors(t *testing.T) {
	for what, x := range map[string]struct {
		spoil func(s *api.Sweep)
		want  api.Errno
	}{
		"the name":  {func(s *api.Sweep) { s.Site.Name = "" }, api.ErrName},
		"the tilt":  {func(s *api.Sweep) { s.Tilt = 257 }, api.ErrRange},
		"the rays":  {func(s *api.Sweep) { s.Rays = s.Rays[1:] }, api.ErrShape},
		"the gates": {func(s *api.Sweep) { s.Rays[3] = s.Rays[3][1:] }, api.ErrShape},
		"the kind":  {func(s *api.Sweep) { s.Rays[3][1].Kind = 0 }, api.ErrArg},
		"the power": {func(s *api.Sweep) { s.Rays[3][1].Power.Lo = 1 }, api.ErrRange},
	} {
		s := example()
		x.spoil(&s)
		_, e := sift.Test(leaf(sift.True), s, 0, 0)
		wantErr(t, what+": Test", e, x.want)
		_, _, e = sift.Value(num(1), s, 0, 0)
		wantErr(t, what+": Value", e, x.want)
		_, e = sift.Judge(nil, s)
		wantErr(t, what+": Judge", e, x.want)
		_, e = sift.Clean(nil, s)
		wantErr(t, what+": Clean", e, x.want)
	}
}
