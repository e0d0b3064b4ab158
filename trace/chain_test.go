package trace_test

import (
	"math"
	"slices"
	"testing"

	"radome/api"
	"radome/trace"
)

// wantChain checks the chain of a test.
func wantChain(t *testing.T, b *trace.Book, number int, want []string, wantE api.Errno) {
	t.Helper()
	if got, e := b.Chain(number); !slices.Equal(got, want) || e != wantE {
		t.Errorf("Chain of %d: %v %d, want %v %d", number, got, e, want, wantE)
	}
}

// wantDepends checks what comes from a standard.
func wantDepends(t *testing.T, b *trace.Book, name string, standards []string, tests []int, wantE api.Errno) {
	t.Helper()
	gotStandards, gotTests, e := b.Depends(name)
	if !slices.Equal(gotStandards, standards) || !slices.Equal(gotTests, tests) || e != wantE {
		t.Errorf("Depends of %s: %v %v %d, want %v %v %d", name, gotStandards, gotTests, e, standards, tests, wantE)
	}
}

// family returns standards from two roots, not in the order of their names, and
// tests of them.
func family() []call {
	return []call{
		radar("r", 0), unit("z"), unit("m"), made("y", "z", 1000, 1000, 0, maxTime, 0), made("a", "z", 1000, 1000, 0, maxTime, 0),
		test("r", "a", 9, 1, 1), made("x", "y", 1000, 1000, 0, maxTime, 0), test("r", "z", 8, 1, 1), test("r", "m", 7, 1, 1),
		made("b", "m", 1000, 1000, 0, maxTime, 0), test("r", "x", 6, 1, 1), test("r", "y", 5, 1, 1), test("r", "a", 4, 1, 1),
		made("c", "y", 1000, 1000, 0, maxTime, 0),
	}
}

// P7.6: chains of all tests, and numbers that no test has.
func TestChains(t *testing.T) {
	b := bookOf(t, family()...)
	want := [][]string{{"a", "z"}, {"z"}, {"m"}, {"x", "y", "z"}, {"y", "z"}, {"a", "z"}}
	check := func() {
		t.Helper()
		for number, chain := range want {
			wantChain(t, b, number, chain, api.OK)
		}
		for _, number := range []int{-1, 6, 7, math.MinInt, math.MaxInt} {
			wantChain(t, b, number, nil, api.ErrNone)
		}
	}
	check()
	enter(t, b, withdraw("y"), withdraw("z"), withdraw("a"))
	check()
	wantChain(t, bookOf(t, family()[:5]...), 0, nil, api.ErrNone)
	wantChain(t, trace.New(), 0, nil, api.ErrNone)
}

// P7.6: all that comes from a standard, in the order of entries, void or not.
func TestDepends(t *testing.T) {
	b := bookOf(t, family()...)
	check := func() {
		t.Helper()
		wantDepends(t, b, "z", []string{"z", "y", "a", "x", "c"}, []int{0, 1, 3, 4, 5}, api.OK)
		wantDepends(t, b, "m", []string{"m", "b"}, []int{2}, api.OK)
		wantDepends(t, b, "y", []string{"y", "x", "c"}, []int{3, 4}, api.OK)
		wantDepends(t, b, "x", []string{"x"}, []int{3}, api.OK)
		wantDepends(t, b, "a", []string{"a"}, []int{0, 5}, api.OK)
		wantDepends(t, b, "b", []string{"b"}, nil, api.OK)
		for _, name := range []string{"r", "", "d", "Z", "z "} {
			wantDepends(t, b, name, nil, nil, api.ErrNone)
		}
	}
	check()
	enter(t, b, withdraw("x"), withdraw("z"), withdraw("b"))
	check()
	enter(t, b, reinstate("z"))
	check()
	wantDepends(t, trace.New(), "z", nil, nil, api.ErrNone)
}

// P7.6, P7.11: the longest chain.
func TestLongChains(t *testing.T) {
	b := bookOf(t, append(ladder(64), radar("r", 0), test("r", letters(63), 3150000, 5, 5), test("r", letters(31), 3150000, 5, 5))...)
	var up []string
	for i := range 64 {
		up = append(up, letters(i))
	}
	down := slices.Clone(up)
	slices.Reverse(down)
	wantChain(t, b, 0, down, api.OK)
	wantChain(t, b, 1, down[32:], api.OK)
	for i := range 64 {
		tests := []int{0, 1}[:1]
		if i <= 31 {
			tests = []int{0, 1}
		}
		wantDepends(t, b, letters(i), up[i:], tests, api.OK)
	}
	for i := range 64 {
		enter(t, b, withdraw(letters(i)))
		want := api.OK
		if i <= 31 {
			want = api.ErrEmpty
		}
		if _, _, e := b.Gain("r", 0); e != want {
			t.Errorf("Gain without %s: error %d, want %d", letters(i), e, want)
		}
		enter(t, b, reinstate(letters(i)))
	}
}

// forest returns some standards, each of which is a root or made from one that
// was entered before, and tests of them, all in between.
func (n *noise) forest(count int) record {
	r := record{radar("r", 0)}
	for i := range count {
		c := unit(letters(i))
		if i > 0 && n.upTo(5) > 0 {
			c.standard.Parent = letters(n.upTo(i - 1))
		}
		r = append(r, c, test("r", letters(n.upTo(i)), n.upTo(1000), 1, 5))
	}
	return r
}

// P7.11: a chain ends with a root, each element is made from the next one, and a
// test is among those that depend on a standard exactly if this is in its chain.
func TestChainsAndDepends(t *testing.T) {
	long := 0
	for seed := range 60 {
		r := (&noise{state: uint64(1000 + seed)}).forest(30)
		b := bookOf(t, r...)
		for number := range r.of(isTest) {
			chain, e := b.Chain(number)
			wantErr(t, "Chain", e, api.OK)
			long = max(long, len(chain))
			for i, name := range chain {
				s, found := r.standard(name)
				if !found || i+1 < len(chain) && s.Parent != chain[i+1] || i+1 == len(chain) && s.Parent != "" {
					t.Fatalf("the chain %v has %s, from %s", chain, name, s.Parent)
				}
			}
			for _, c := range r.of(isStandard) {
				name := c.standard.Name
				_, tests, e := b.Depends(name)
				if e != api.OK || slices.Contains(tests, number) != slices.Contains(chain, name) {
					t.Fatalf("Depends of %s: %v %d, but the chain of %d is %v", name, tests, e, number, chain)
				}
			}
		}
	}
	if long < 6 {
		t.Errorf("the longest chain has %d elements", long)
	}
}

// P7.11: a test counts exactly if no element of its chain is withdrawn, whatever
// else is, and in whichever order that came about.
func TestCounts(t *testing.T) {
	names := []string{letters(0), letters(1), letters(2), letters(3), letters(4), "side"}
	start := append(ladder(5), made("side", letters(1), 1000, 1000, 50000, maxTime, 0), radar("r", 0), test("r", letters(3), 200000, 7, 7))
	n := &noise{state: 5}
	for chosen := range 64 {
		b := bookOf(t, start...)
		want := api.OK
		for range 20 {
			name := names[n.upTo(5)]
			withdraw(name).in(b)
			name = names[n.upTo(5)]
			reinstate(name).in(b)
		}
		for i, name := range names {
			if chosen>>i&1 == 0 {
				reinstate(name).in(b)
				continue
			}
			withdraw(name).in(b)
			if i <= 3 {
				want = api.ErrEmpty
			}
		}
		if _, _, e := b.Gain("r", 200000); e != want {
			t.Errorf("Gain with the set %b withdrawn: error %d, want %d", chosen, e, want)
		}
	}
}
