package sift_test

import (
	"slices"
	"strings"
	"testing"

	"radome/api"
	"radome/sift"
)

// words are the texts of the kinds of nodes.
func words() map[int]string {
	m := map[int]string{
		sift.True: "true", sift.False: "false", sift.Not: "not", sift.And: "and", sift.Or: "or", sift.Some: "some", sift.All: "all",
		sift.Lt: "<", sift.Le: "<=", sift.Gt: ">", sift.Ge: ">=", sift.Eq: "=", sift.Ne: "!=",
		sift.Count: "count", sift.Add: "+", sift.Sub: "-",
	}
	for i, word := range strings.Fields("power ratio match spread turn step kind ray gate tilt") {
		m[sift.Power+i] = word
	}
	return m
}

// wantText returns the text of rules.
func wantText(l []sift.Rule) string {
	s := ""
	for _, r := range l {
		s += r.Name + ": " + wantWords(r.When) + ";\n"
	}
	return s
}

func wantWords(n sift.Node) string {
	word := words()[n.Op]
	switch {
	case n.Op == sift.Number:
		return decimal(n.Value)
	case n.Op == sift.Not:
		return "not " + wantWords(n.Args[0])
	case asksNeighbors(n.Op):
		return word + " " + decimal(n.Rays) + " " + decimal(n.Gates) + " " + wantWords(n.Args[0])
	case n.Op == sift.Add || n.Op == sift.Sub:
		return wantWords(n.Args[0]) + " " + word + " " + wantWords(n.Args[1])
	case len(n.Args) == 2:
		return "(" + wantWords(n.Args[0]) + " " + word + " " + wantWords(n.Args[1]) + ")"
	}
	return word
}

func decimal(n int) string {
	if n < 10 {
		return string(rune('0' + n))
	}
	return decimal(n/10) + decimal(n%10)
}

// P4.2: the text of each kind of node, alone and below others, which is read as
// the same again.
func TestTexts(t *testing.T) {
	for want, c := range map[string]sift.Node{
		"true": leaf(sift.True), "false": leaf(sift.False),
		"not true": not(leaf(sift.True)), "not not false": nots(2, leaf(sift.False)),
		"(true and false)":                                 over(sift.And, leaf(sift.True), leaf(sift.False)),
		"(true or (false or true))":                        over(sift.Or, leaf(sift.True), over(sift.Or, leaf(sift.False), leaf(sift.True))),
		"((true or false) or true)":                        over(sift.Or, over(sift.Or, leaf(sift.True), leaf(sift.False)), leaf(sift.True)),
		"not (not true and not false)":                     not(over(sift.And, not(leaf(sift.True)), not(leaf(sift.False)))),
		"some 0 3 true":                                    near(sift.Some, 0, 3, leaf(sift.True)),
		"all 2 1 not some 3 0 false":                       near(sift.All, 2, 1, not(near(sift.Some, 3, 0, leaf(sift.False)))),
		"some 1 1 (power > 7)":                             near(sift.Some, 1, 1, strong(7)),
		"(0 < 1000000000)":                                 over(sift.Lt, num(0), num(1000000000)),
		"(power <= ratio)":                                 over(sift.Le, leaf(sift.Power), leaf(sift.Ratio)),
		"(match > spread)":                                 over(sift.Gt, leaf(sift.Match), leaf(sift.Spread)),
		"(turn >= step)":                                   over(sift.Ge, leaf(sift.Turn), leaf(sift.Step)),
		"(kind = ray)":                                     over(sift.Eq, leaf(sift.Kind), leaf(sift.Ray)),
		"(gate != tilt)":                                   over(sift.Ne, leaf(sift.Gate), leaf(sift.Tilt)),
		"(ray + 1 < gate - 10)":                            over(sift.Lt, over(sift.Add, leaf(sift.Ray), num(1)), over(sift.Sub, leaf(sift.Gate), num(10))),
		"(1 - 2 + 3 = 4)":                                  over(sift.Eq, over(sift.Add, over(sift.Sub, num(1), num(2)), num(3)), num(4)),
		"(count 2 3 (power > 7) = 1)":                      over(sift.Eq, near(sift.Count, 2, 3, strong(7)), num(1)),
		"(1 + count 0 0 true - 2 > 10)":                    over(sift.Gt, over(sift.Sub, over(sift.Add, num(1), near(sift.Count, 0, 0, leaf(sift.True))), num(2)), num(10)),
		"(count 1 0 (power > 7) + 1 > count 0 1 not true)": over(sift.Gt, over(sift.Add, near(sift.Count, 1, 0, strong(7)), num(1)), near(sift.Count, 0, 1, not(leaf(sift.True)))),
	} {
		l := []sift.Rule{rule("a_1", c)}
		if got := mustPrint(t, l); got != "a_1: "+want+";\n" {
			t.Errorf("%v: %q, want %q", c, got, want)
		}
		if got := mustRead(t, "a_1: "+want+";\n"); !sameRules(got, l) {
			t.Errorf("%q: %v, want %v", want, got, l)
		}
	}
	if s := mustPrint(t, nil); s != "" {
		t.Errorf("no rules: %q", s)
	}
	l := []sift.Rule{rule("b", leaf(sift.True)), rule("a", leaf(sift.False))}
	if s := mustPrint(t, l); s != "b: true;\na: false;\n" {
		t.Errorf("two rules: %q", s)
	}
}

// P4.2: the order in which words take what is around them.
func TestOrderOfWords(t *testing.T) {
	for s, want := range map[string]string{
		"power > 4 and not match >= 900 or tilt = 3":         "(((power > 4) and not (match >= 900)) or (tilt = 3))",
		"true or true and false":                             "(true or (true and false))",
		"true and true or false":                             "((true and true) or false)",
		"true or false or true or false":                     "(((true or false) or true) or false)",
		"true and false and true and false":                  "(((true and false) and true) and false)",
		"true or false and true or false and true":           "((true or (false and true)) or (false and true))",
		"true and (true or false)":                           "(true and (true or false))",
		"(true or false) and true":                           "((true or false) and true)",
		"((((true))))":                                       "true",
		"not true and false":                                 "(not true and false)",
		"not (true and false)":                               "not (true and false)",
		"not not true or false":                              "(not not true or false)",
		"some 1 1 true and false":                            "(some 1 1 true and false)",
		"some 1 1 power > 1 or all 0 0 not false and true":   "(some 1 1 (power > 1) or (all 0 0 not false and true))",
		"1 + 2 - 3 + 4 > 5 - 6":                              "(1 + 2 - 3 + 4 > 5 - 6)",
		"count 1 1 true > 3":                                 "(count 1 1 true > 3)",
		"count 1 1 power > 1 > 3":                            "(count 1 1 (power > 1) > 3)",
		"count 1 1 power > 1 + 2 > 3":                        "(count 1 1 (power > 1 + 2) > 3)",
		"count 1 1 (power > 1) + 2 > 3":                      "(count 1 1 (power > 1) + 2 > 3)",
		"count 1 1 true + 2 > 3":                             "(count 1 1 true + 2 > 3)",
		"count 1 1 not power > 1 - 2 > 3":                    "(count 1 1 not (power > 1 - 2) > 3)",
		"2 + count 0 1 power + 1 = 2 < 3 and true":           "((2 + count 0 1 (power + 1 = 2) < 3) and true)",
		"1 < count 2 0 count 0 2 true < 1 and false":         "((1 < count 2 0 (count 0 2 true < 1)) and false)",
		"count 1 1 count 2 2 ray = 1 != 2 = 3":               "(count 1 1 (count 2 2 (ray = 1) != 2) = 3)",
		"count 1 1 some 2 2 count 3 3 true > 4 > 5 or false": "((count 1 1 some 2 2 (count 3 3 true > 4) > 5) or false)",
	} {
		if got := mustPrint(t, mustRead(t, "a:"+s+";")); got != "a: "+want+";\n" {
			t.Errorf("%q: %q, want %q", s, got, want)
		}
	}
}

// P4.2: faults, by hand: each is where a point stands, or else at the end.
func TestFaults(t *testing.T) {
	for _, l := range [][]string{
		// names
		{".not: true;", "a: true; .true: true;", "a: true; .count: true;", ".abcdefghijklm: true;", ".: true;", ".7: true;", ".A: true;"},
		{"a .a: true;", "a: true; .A: true;", "a .; true;", "a:.: true;", "a: .; b: true;", "a: true .b: true;"},
		// the end
		{"a.", "a:.", "a: true.", "a: true ", "a: true # comment;\n .", "a: true;b.", "a: true; .0", "a: (true or.", "a: power >.", "a: some.", "a: some 1."},
		// between rules
		{"a: true;.;", "a: true; .:", "a: true;\n#b: true;\n.)", "a:true;.(", "a: true;b: true .c;"},
		// conditions
		{"a: .b;", "a: .powers > 1;", "a: not.;", "a: not .and;", "a: true and.;", "a: true or .or true;", "a: true .> 1;"},
		{"a: (true.;", "a: (true or.)", "a: (.);", "a: true.);", "a: true.) or true;", "a: (true) .= true;", "a: (power > 1) .> 1;", "a: (true) .+ 1 > 2;"},
		// values
		{"a: power.;", "a: (power.) < 3;", "a: power > .;", "a: power > .> 1;", "a: power > 1 .> 2;", "a: power + .> 1;", "a: power + .- 1 > 1;", "a: power.: 1;"},
		{"a: .+ 1 > 2;", "a: .- 1 < 2;", "a: 5 > .-1;", "a: power .(1);", "a: power > .(1);", "a: 1 + .(1) > 2;", "a: power .and true;", "a: 1 > .true;"},
		// numbers
		{"a: 0.0 > 1;", "a: 0.1 > 1;", "a: 1.b > 1;", "a: 0.power > 1;", "a: 1.and true;", "a: power > 1.and true;", "a: power > 1.or true;", "a: 1 > 0.00;"},
		{"a: some .11 true;", "a: some 0.1 1 true;", "a: some 1 1.true;", "a: power > 1 .1;", "a: power > 1000000000 .1;"},
		{"a: power > .1000000001;", "a: power > .99999999999999999999999;", "a: .1000000001 > 1;"},
		// neighbors
		{"a: some .4 0 true;", "a: some 0 .4 true;", "a: all 0 .4 true;", "a: count .10 0 true;", "a: some .true;", "a: some 1 .true;", "a: some 1 1.;"},
		{"a: some 1 1 1.;", "a: all 1 1 all.;", "a: count 1 1 true.;", "a: count 1 1 true .and false > 1;", "a: count 1 1 .;", "a: count.;"},
		{"a: count 1 1 power > 1.;", "a: count 1 1 power > 1 .and true;", "a: some 1 1 power.;"},
		// what is no token
		{"a: .truE;", "a: true.E;", "a: .true_;", "a: true ._;", "a: .poWER > 1;", "a: power.S > 1;", "a: power .! 1;", "a: power .!1;", "a: 1.A;"},
		{"a: true.$;", "a: .\x00;", "a: .é;", ".\xff", "a: true.,", "a: true.\x0b;", "a: true.\u00a0;"},
	} {
		for _, s := range l {
			checkFault(t, s)
		}
	}
}

// checkFault checks the fault of a text, which is where its first point stands.
func checkFault(t *testing.T, s string) {
	t.Helper()
	before, behind, _ := strings.Cut(s, ".")
	s = before + behind
	l, at, e := sift.Read(s)
	if e != api.ErrForm || at != len(before) || l != nil {
		t.Errorf("%q: %v, error %d at %d, want %d", s, l, e, at, len(before))
	}
	if want, isFault := wantFault(s); !isFault || want != len(before) {
		t.Errorf("%q: the form has the fault %d (%v), not %d", s, want, isFault, len(before))
	}
}

// P4.2: what is as long as it may be, and longer.
func TestLongTexts(t *testing.T) {
	for what, s := range map[string]string{
		"spaces":            "a: true;" + strings.Repeat(" ", api.MaxText-8),
		"a comment":         "a: true;#" + strings.Repeat("x", api.MaxText-9),
		"other line ends":   strings.Repeat("\r\n", api.MaxText/2-4) + "a: true;",
		"comments":          strings.Repeat("#\n", api.MaxText/2-4) + "a: true;",
		"brackets":          "a:" + strings.Repeat("(", api.MaxText/2-4) + "true" + strings.Repeat(")", api.MaxText/2-4) + " ;",
		"the end of a word": "a: true" + strings.Repeat("\t", api.MaxText-8) + ";",
	} {
		if len(s) != api.MaxText {
			t.Fatalf("%s: %d bytes", what, len(s))
		}
		if l := mustRead(t, s); !sameRules(l, []sift.Rule{rule("a", leaf(sift.True))}) {
			t.Errorf("%s: %v", what, l)
		}
		l, at, e := sift.Read(s + " ")
		if e != api.ErrLong || at != 0 || l != nil {
			t.Errorf("%s, and a space: %v, %d, error %d", what, l, at, e)
		}
		l, at, e = sift.Read("$" + s)
		if e != api.ErrLong || at != 0 || l != nil {
			t.Errorf("%s, with a fault: %v, %d, error %d", what, l, at, e)
		}
		_, at, e = sift.Read("$" + s[1:])
		if e != api.ErrForm || at != 0 {
			t.Errorf("%s, with a fault instead of a byte: %d, error %d", what, at, e)
		}
	}
	for what, s := range map[string]string{
		"brackets": "a:" + strings.Repeat("(", api.MaxText-2),
		"nots":     "a:" + strings.Repeat("not ", api.MaxText/4-1) + "  ",
		"counts":   "a:" + strings.Repeat("count 0 0 ", api.MaxText/10) + "1234",
		"digits":   "a:1>0 #" + strings.Repeat("7", api.MaxText-7),
	} {
		if len(s) != api.MaxText {
			t.Fatalf("%s: %d bytes", what, len(s))
		}
		if _, at, e := sift.Read(s); e != api.ErrForm || at != len(s) {
			t.Errorf("%s: error %d at %d", what, e, at)
		}
	}
	_, at, e := sift.Read("a:1>" + strings.Repeat("7", 60000) + ";")
	if e != api.ErrForm || at != 4 {
		t.Errorf("a long number: error %d at %d", e, at)
	}
}

// P4.2: rules that are read, but not valid.
func TestReadNotValid(t *testing.T) {
	many := func(count int) string {
		s := ""
		for _, r := range named(slices.Repeat([]sift.Node{leaf(sift.True)}, count)...) {
			s += r.Name + ":true;"
		}
		return s
	}
	for s, want := range map[string]api.Errno{
		many(32):               api.OK,
		many(33):               api.ErrMany,
		many(33) + "a1:true;":  api.ErrMany,
		many(33) + "and":       api.ErrForm,
		"a:true;a:true;":       api.ErrHave,
		"a:true;b:true;a:true": api.ErrForm,
		"a:" + strings.Repeat("not ", 11) + "true;":                                       api.OK,
		"a:" + strings.Repeat("not ", 12) + "true;":                                       api.ErrDeep,
		"a:" + strings.Repeat("not ", 12) + "true;a:true;":                                api.ErrDeep,
		"a:true;" + "a:" + strings.Repeat("not ", 12) + "true;":                           api.ErrHave,
		"a:" + strings.Repeat("not ", 299) + "true;":                                      api.ErrDeep,
		"a:" + strings.Repeat("not ", 300) + "true;":                                      api.ErrMany,
		"a:true" + strings.Repeat(" or true", 11) + ";":                                   api.OK,
		"a:true" + strings.Repeat(" or true", 12) + ";":                                   api.ErrDeep,
		"a:1" + strings.Repeat("+1", 10) + ">1;":                                          api.OK,
		"a:1" + strings.Repeat("+1", 11) + ">1;":                                          api.ErrDeep,
		"a:1" + strings.Repeat("+1", 30000) + ">1;":                                       api.ErrMany,
		"a:" + strings.Repeat("not ", 16000) + "true;":                                    api.ErrMany,
		"a:true" + strings.Repeat(" and true", 7000) + ";":                                api.ErrMany,
		strings.Repeat("a:true;", 9000):                                                   api.ErrMany,
		"a:" + strings.Repeat("count 1 1 ", 11) + "true" + strings.Repeat(">1", 11) + ";": api.ErrDeep,
		"a:" + strings.Repeat("count 1 1 ", 5) + "true" + strings.Repeat(">1", 5) + ";":   api.OK,
		"a:" + strings.Repeat("count 1 1 ", 6) + "true" + strings.Repeat(">1", 6) + ";":   api.ErrDeep,
	} {
		l, at, e := sift.Read(s)
		if e != want || (at != 0) != (want == api.ErrForm) || e != api.OK && l != nil {
			t.Errorf("%.40q: %d rules, at %d, error %d, want %d", s, len(l), at, e, want)
		}
	}
}

// P4.2: a text without rules.
func TestNoRules(t *testing.T) {
	for _, s := range []string{"", " ", "\n", "\r\t", "#", "# a: true", "#\n#\n", " # $ é \x00\n "} {
		if l := mustRead(t, s); len(l) != 0 {
			t.Errorf("%q: %v", s, l)
		}
	}
}

// loosely returns the text of a condition with no brackets but those that it
// needs. Comparisons below Count need some, as + and - would belong to them.
func loosely(n sift.Node) string {
	word := words()[n.Op]
	switch {
	case n.Op == sift.Or:
		return loosely(n.Args[0]) + " or " + bracket(n.Args[1], sift.Or)
	case n.Op == sift.And:
		return bracket(n.Args[0], sift.Or) + " and " + bracket(n.Args[1], sift.Or, sift.And)
	case n.Op == sift.Not:
		return "not " + bracket(n.Args[0], sift.Or, sift.And)
	case n.Op == sift.Some || n.Op == sift.All:
		return word + " " + decimal(n.Rays) + " " + decimal(n.Gates) + " " + bracket(n.Args[0], sift.Or, sift.And)
	case len(n.Args) == 2:
		return loosely(n.Args[0]) + " " + word + " " + loosely(n.Args[1])
	}
	return wantWords(n)
}

// bracket returns the text of a condition, in brackets if it is of some kind.
func bracket(n sift.Node, ops ...int) string {
	if slices.Contains(ops, n.Op) {
		return "(" + loosely(n) + ")"
	}
	return loosely(n)
}

// spread returns a text with other gaps between its tokens: as few as it can
// have, or any.
func (n *noise) spread(s string, few bool) string {
	gaps := []string{" ", "\t", "\n", "\r\n", "  ", "#\n", " # a: true; $\n\t", "##\r\n"}
	all, before := "", ""
	for _, x := range wantTokens(s) {
		joins := strings.Trim(before, "<>=!+-():;") != "" && strings.Trim(x.text, "<>=!+-():;") != ""
		if joins || !few && n.upTo(2) == 0 {
			all += gaps[n.upTo(len(gaps)-1)]
		}
		all += x.text
		before = x.text
	}
	return all
}

// P4.6: rules are read from their texts, also from those with fewer brackets
// and other gaps; and different ones have different texts.
func TestReadAgain(t *testing.T) {
	n := &noise{state: 41}
	seen := map[string][]sift.Rule{}
	for k := range 3000 {
		l := n.rules(n.upTo(4), 2+n.upTo(6))
		if sift.Check(l) == api.ErrMany {
			continue
		}
		s := mustPrint(t, l)
		if s != wantText(l) {
			t.Fatalf("%v: %q, want %q", l, s, wantText(l))
		}
		if before, is := seen[s]; is && !sameRules(before, l) {
			t.Fatalf("%v and %v: both %q", before, l, s)
		}
		seen[s] = l
		loose := ""
		for _, r := range l {
			loose += r.Name + ":" + loosely(r.When) + ";"
		}
		for _, x := range []string{s, loose, n.spread(s, true), n.spread(loose, k%2 == 0)} {
			if got := mustRead(t, x); !sameRules(got, l) {
				t.Fatalf("%q: %v, want %v", x, got, l)
			}
		}
	}
	if len(seen) < 1000 {
		t.Errorf("only %d rules", len(seen))
	}
}

// spoiled returns a text in which some tokens are missing, doubled, or others.
func (n *noise) spoiled(s string) string {
	others := append(language(), "<", "<=", ">", ">=", "=", "!=", "+", "-", "(", ")", ":", ";", "0", "3", "4", "1000000000", "1000000001", "b", "abcdefghijkl", "abcdefghijklm", "$", "A", "!", "01", "1b", "é")
	l := wantTokens(s)
	for range 1 + n.upTo(2) {
		if len(l) == 0 {
			break
		}
		i := n.upTo(len(l) - 1)
		other := token{text: others[n.upTo(len(others)-1)]}
		switch n.upTo(4) {
		case 0:
			l = slices.Delete(l, i, i+1)
		case 1:
			l = slices.Insert(l, i, other)
		case 2:
			l = slices.Insert(l, i, l[n.upTo(len(l)-1)])
		case 3:
			l[i] = other
		default:
			l = l[:i]
		}
	}
	all := ""
	for _, x := range l {
		all += x.text + []string{"", " ", " ", " ", "#\n"}[n.upTo(4)]
	}
	return all
}

// P4.2: the fault of any text, and that there is none. What Read returns is
// read from its own text again (P4.6).
func TestAnyFaults(t *testing.T) {
	n := &noise{state: 42}
	count := map[api.Errno]int{}
	for range 6000 {
		s := wantText(n.rules(1+n.upTo(1), 2+n.upTo(3)))
		if n.upTo(9) > 0 {
			s = n.spoiled(s)
		}
		l, at, e := sift.Read(s)
		count[e]++
		want, isFault := wantFault(s)
		if (e == api.ErrForm) != isFault || at != want {
			t.Fatalf("%q: error %d at %d, want a fault at %d (%v)", s, e, at, want, isFault)
		}
		if e == api.OK && !sameRules(mustRead(t, mustPrint(t, l)), l) {
			t.Fatalf("%q: %v is read as other rules", s, l)
		}
		if e != api.OK && l != nil {
			t.Fatalf("%q: %v with the error %d", s, l, e)
		}
	}
	if count[api.OK] < 500 || count[api.ErrForm] < 3000 {
		t.Errorf("errors: %v", count)
	}
}

// P4.2: the examples of the chapter.
func TestReadExamples(t *testing.T) {
	got := mustPrint(t, mustRead(t, "a: power > 4 and not match >= 900 or tilt = 3;"))
	if got != "a: (((power > 4) and not (match >= 900)) or (tilt = 3));\n" {
		t.Errorf("%q", got)
	}
	for s, want := range map[string]int{"a: power;": 8, "a: (power) < 3;": 9, "a: some 4 0 true;": 8, "not: true;": 0} {
		if l, at, e := sift.Read(s); e != api.ErrForm || at != want || l != nil {
			t.Errorf("%q: %v, error %d at %d, want %d", s, l, e, at, want)
		}
	}
}
