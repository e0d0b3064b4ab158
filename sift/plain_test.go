package sift_test

import (
	"slices"
	"testing"

	"radome/api"
	"radome/sift"
)

// P4.5: the reach of rules.
func TestReach(t *testing.T) {
	for text, want := range map[string][2]int{
		"":                                     {0, 0},
		"a: true;":                             {0, 0},
		"a: not power > ray;":                  {0, 0},
		"a: some 0 0 true;":                    {0, 0},
		"a: some 1 2 true;":                    {1, 2},
		"a: all 3 0 true;":                     {3, 0},
		"a: count 2 3 true > 0;":               {2, 3},
		"a: 0 < 1 - count 2 3 true;":           {2, 3},
		"a: some 1 2 count 2 0 power > 1 > 3;": {3, 2},
		"a: some 3 0 true or all 0 3 false;":   {3, 3},
		"a: some 3 0 true; b: all 0 3 false;":  {3, 3},
		"a: some 1 1 (some 2 0 true and not all 0 3 true);":                                                     {3, 4},
		"a: count 3 0 count 0 3 true > 1 > 1; b: some 2 2 some 2 2 some 1 0 true; c: true;":                     {5, 4},
		"a: some 3 3 some 3 3 some 3 3 some 3 3 some 3 3 all 3 3 all 3 3 all 3 3 all 3 3 all 3 3 all 3 3 true;": {33, 33},
	} {
		rays, gates, e := sift.Reach(mustRead(t, text))
		if e != api.OK || rays != want[0] || gates != want[1] {
			t.Errorf("%s: %d rays, %d gates, error %d; want %v", text, rays, gates, e, want)
		}
	}
}

// P4.11: the reach is no greater than it has to be: what is just as far away
// decides, both along rays and around.
func TestFullReach(t *testing.T) {
	s := api.Sweep{Site: api.Site{Name: "s", Rose: 3, Gates: 7, Step: 1000}}
	for range 12 {
		s.Rays = append(s.Rays, slices.Repeat([]api.Echo{quiet(0)}, 7))
	}
	l := mustRead(t, "a: some 2 1 (power > 5 or some 1 2 power > 5);")
	for _, p := range places(s) {
		s.Rays[p.ray][p.gate] = api.Echo{Kind: api.Mixed, Power: pt(6)}
		v := mustJudge(t, l, s)
		for _, at := range places(s) {
			want := -1
			// what is seen from a neighbor is also the gate itself
			if at == p || !isFar(s, at, p, 3, 3) {
				want = 0
			}
			if got := v[at.ray][at.gate].Rule; got != want {
				t.Fatalf("%v, from %v: %d, want %d", p, at, got, want)
			}
		}
		s.Rays[p.ray][p.gate] = quiet(0)
	}
}

// P4.5: the plain form of each kind of condition below Not, and elsewhere.
func TestPlain(t *testing.T) {
	for text, want := range map[string]string{
		"not (power > 1 and not some 1 1 true)": "(not (power > 1) or some 1 1 true)",
		"true":                                  "true",
		"not true":                              "false",
		"not false":                             "true",
		"not not true":                          "true",
		"not not not true":                      "false",
		"not not power > 1":                     "(power > 1)",
		"not not not power > 1":                 "not (power > 1)",
		"not power < 1":                         "not (power < 1)",
		"not power <= 1":                        "not (power <= 1)",
		"not power > 1":                         "not (power > 1)",
		"not power >= 1":                        "not (power >= 1)",
		"not power = 1":                         "not (power = 1)",
		"not power != 1":                        "not (power != 1)",
		"not (kind = 1 and ray = 2)":            "(not (kind = 1) or not (ray = 2))",
		"not (kind = 1 or ray = 2)":             "(not (kind = 1) and not (ray = 2))",
		"not (not kind = 1 or not ray = 2)":     "((kind = 1) and (ray = 2))",
		"not some 1 2 kind = 1":                 "all 1 2 not (kind = 1)",
		"not all 3 0 kind = 1":                  "some 3 0 not (kind = 1)",
		"some 3 0 not not kind = 1":             "some 3 0 (kind = 1)",
		"all 0 2 not (true and ray = 1)":        "all 0 2 (false or not (ray = 1))",
		"not not (true and not false)":          "(true and true)",
		"not not (not true or not not false)":   "(false or false)",
		"true and not not false":                "(true and false)",
		"not some 1 1 all 2 2 not some 3 3 not (true and power > 1)": "all 1 1 some 2 2 some 3 3 (false or not (power > 1))",
		"count 1 2 not not true > 3":                                 "(count 1 2 true > 3)",
		"not 3 < count 1 2 not (true or kind = 1)":                   "not (3 < count 1 2 (false and not (kind = 1)))",
		"1 + count 0 0 not some 1 1 true - count 2 2 not false = 2":  "(1 + count 0 0 all 1 1 false - count 2 2 true = 2)",
		"count 1 1 count 2 2 not not true > 1 > 1":                   "(count 1 1 (count 2 2 true > 1) > 1)",
		"power - 1 + ratio > 5 - gate":                               "(power - 1 + ratio > 5 - gate)",
	} {
		got := mustPlain(t, mustRead(t, "a: "+text+"; b: false;"))
		if s := wantText(got); s != "a: "+want+";\nb: false;\n" {
			t.Errorf("%s: %s, want %s", text, s, want)
		}
	}
	if l := mustPlain(t, nil); len(l) != 0 {
		t.Errorf("no rules: %v", l)
	}
}

// isPlain reports whether Not is nowhere but on comparisons.
func isPlain(n sift.Node) bool {
	if n.Op == sift.Not && (n.Args[0].Op < sift.Lt || n.Args[0].Op > sift.Ne) {
		return false
	}
	return !slices.ContainsFunc(n.Args, func(a sift.Node) bool { return !isPlain(a) })
}

// P4.10: the plain form is what the condition is, for each gate, and its own
// plain form.
func TestPlainForms(t *testing.T) {
	n := &noise{state: 61}
	checked := 0
	for range 300 {
		s, l := n.sweep(1, 1+n.upTo(2)), n.rules(3, 5)
		for i := range l {
			if n.upTo(1) == 0 {
				l[i].When = not(l[i].When)
			}
		}
		p := mustPlain(t, l)
		for i, r := range p {
			if r.Name != l[i].Name || !isPlain(r.When) {
				t.Fatalf("the plain form of %s: %s", wantText(l), wantText(p))
			}
			for _, at := range places(s) {
				if a, b := wantState(l[i].When, s, at), wantState(r.When, s, at); a != b {
					t.Fatalf("%s: %d, but %s: %d", wantText(l), a, wantText(p), b)
				}
			}
		}
		if sift.Check(p) != api.OK {
			continue
		}
		checked++
		if again := mustPlain(t, p); !sameRules(again, p) {
			t.Fatalf("the plain form of %s: %s", wantText(p), wantText(again))
		}
		before, after := mustJudge(t, l, s), mustJudge(t, p, s)
		for _, at := range places(s) {
			if !sameVerdict(before[at.ray][at.gate], after[at.ray][at.gate]) {
				t.Fatalf("%s and %s at %v", wantText(l), wantText(p), at)
			}
		}
	}
	if checked < 100 {
		t.Errorf("only %d", checked)
	}
}

// P4.5: plain forms with more nodes than rules can have.
func TestLargePlainForms(t *testing.T) {
	c := strong(1)
	for range 9 {
		c = over(sift.And, c, strong(1))
	}
	l := named(slices.Repeat([]sift.Node{not(c)}, 7)...)
	wantErr(t, "rules with 280 nodes", sift.Check(l), api.OK)
	p := mustPlain(t, l)
	wantErr(t, "their plain forms, with 343", sift.Check(p), api.ErrMany)
	want := not(strong(1))
	for range 9 {
		want = over(sift.Or, want, not(strong(1)))
	}
	if !sameRules(p, named(slices.Repeat([]sift.Node{want}, 7)...)) {
		t.Errorf("the plain form of %s: %s", wantText(l), wantText(p))
	}
}
