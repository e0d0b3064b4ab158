package plan_test

import (
	"slices"
	"testing"

	"radome/api"
	"radome/plan"
)

// P6.2: the examples, and rounds with a job twice, one after the other and at
// both ends.
func TestJudgeExamples(t *testing.T) {
	for _, x := range []struct {
		l           []plan.Job
		round, want []int
	}{
		{both(), []int{0, 1}, []int{16, 6}},
		{both(), []int{1, 0}, []int{16, 6}},
		{both(), []int{0, 0, 1}, []int{16, -14}},
		{both(), []int{0, 1, 0}, []int{16, -14}},
		{both(), []int{1, 0, 0}, []int{16, -14}},
		{both(), []int{0, 1, 0, 1}, []int{16, 6}},
		{both(), []int{0, 1, 1, 0}, []int{-4, -14}},
		{both()[:1], []int{0}, []int{40}},
		{both()[:1], []int{0, 0}, []int{40}},
		{both()[:1], make([]int, 12), []int{40}},
		{three(), []int{0, 1, 2}, []int{-20, -30, -40}},
		{three(), []int{2, 0, 2, 1}, []int{-56, -66, -20}},
		{three(), []int{2, 0, 1, 2}, []int{-40, -50, -40}},
		{three(), []int{0, 1, 2, 0, 1, 2, 0, 1, 2, 0, 1, 2}, []int{-20, -30, -40}},
	} {
		if got := mustJudge(t, radar(), x.l, x.round); !slices.Equal(got, x.want) {
			t.Errorf("Judge of %d jobs, the round %v: %v, want %v", len(x.l), x.round, got, x.want)
		}
	}
}

// P6.2: rounds of all lengths against their definition.
func TestJudge(t *testing.T) {
	n := &noise{state: 11}
	kept, lengths := 0, map[int]int{}
	for range 3000 {
		r, count := n.radar(), 1+n.upTo(5)
		round := n.round(count, 12)
		l := n.jobs(r, count)
		want := wantSlacks(r, l, round)
		if got := mustJudge(t, r, l, round); !slices.Equal(got, want) {
			t.Fatalf("Judge(%v, %v, %v): %v, want %v", r, l, round, got, want)
		}
		lengths[len(round)]++
		if slices.Min(want) >= 0 {
			kept++
		}
	}
	if kept < 100 || kept > 2500 || lengths[1] < 30 || lengths[12] < 30 {
		t.Errorf("%d are kept, of the lengths %v", kept, lengths)
	}
}

// P6.2: jobs at both ends of what they can be.
func TestJudgeFar(t *testing.T) {
	slow := plan.Radar{Rays: 360, Turn: 600000, Move: 10000, Duty: 1}
	low := plan.Job{Train: two(4999, 5000, 64), Width: 1000, Every: 100000000}
	high := low
	high.Tilt, high.Every = 256, 1
	round := []int{0, 1, 0, 1, 0, 1, 0, 1, 0, 1, 0, 1}
	if got := mustJudge(t, slow, []plan.Job{low, high}, round); !slices.Equal(got, []int{100000000 - 9728000, 1 - 9728000}) {
		t.Errorf("Judge: %v", got)
	}
}

// P6.2: which error comes first.
func TestJudgeErrors(t *testing.T) {
	thirteen := make([]int, 13)
	thirteen[12] = 7
	for what, x := range map[string]struct {
		l     []plan.Job
		round []int
		want  api.Errno
	}{
		"no round":                    {both(), nil, api.ErrRange},
		"an empty round":              {both(), []int{}, api.ErrRange},
		"13 elements":                 {both(), thirteen, api.ErrRange},
		"13 elements, all fine":       {both()[:1], make([]int, 13), api.ErrRange},
		"12 elements, one missing":    {both(), make([]int, 12), api.ErrLost},
		"a job below all":             {both(), []int{0, 1, -1}, api.ErrNone},
		"a job above all":             {both(), []int{2, 0, 1}, api.ErrNone},
		"none ahead of lost":          {both(), []int{0, 0, 2}, api.ErrNone},
		"none at last, lost at first": {both(), []int{1, 2}, api.ErrNone},
		"the first one missing":       {both(), []int{1, 1}, api.ErrLost},
		"the last one missing":        {three(), []int{0, 1, 0}, api.ErrLost},
		"fewer elements than jobs":    {three(), []int{0, 1}, api.ErrLost},
	} {
		slacks, e := plan.Judge(radar(), x.l, x.round)
		if e != x.want || len(slacks) > 0 {
			t.Errorf("%s: %v %d, want %d", what, slacks, e, x.want)
		}
	}
	checkOtherNumbers(t)
}

// checkOtherNumbers checks numbers far from those of jobs.
func checkOtherNumbers(t *testing.T) {
	t.Helper()
	for _, n := range extremes() {
		want := api.ErrNone
		if n == 0 || n == 1 {
			want = api.OK
		}
		_, e := plan.Judge(radar(), both(), []int{0, 1, n})
		wantErr(t, "an element that can be anything", e, want)
	}
}

// P6.3: the examples, slacks of 0 and just below, and rounds that are kept only
// when they are longer.
func TestBestExamples(t *testing.T) {
	often := jobs(0, 5, 90, 0, 5, 40, 0, 5, 90) // the second one between both others
	for what, x := range map[string]struct {
		r    plan.Radar
		l    []plan.Job
		most int
		want []int
	}{
		"the example":                       {radar(), both(), 3, []int{0, 1}},
		"none of three":                     {radar(), three(), 8, nil},
		"one job":                           {radar(), both()[:1], 1, []int{0}},
		"one job with the slack 0":          {radar(), jobs(7, 5, 20), 8, []int{0}},
		"one job with a slack below 0":      {radar(), jobs(7, 5, 19), 8, nil},
		"as long as it has to be":           {radar(), both(), 2, []int{0, 1}},
		"too short for all":                 {radar(), both(), 1, nil},
		"both slacks 0":                     {radar(), jobs(0, 5, 44, 2, 5, 44), 8, []int{0, 1}},
		"the first slack below 0":           {radar(), jobs(0, 5, 43, 2, 5, 44), 8, nil},
		"the second slack below 0":          {radar(), jobs(0, 5, 44, 2, 5, 43), 8, nil},
		"kept with a job twice":             {radar(), often, 8, []int{0, 1, 2, 1}},
		"kept with a job twice, just so":    {radar(), often, 4, []int{0, 1, 2, 1}},
		"not kept if it is to be shorter":   {radar(), often, 3, nil},
		"the first of some":                 {lone(0), jobs(0, 2, 9, 0, 2, 9, 0, 2, 9), 8, []int{0, 1, 2}},
		"in another order, for the moves":   {lone(1), jobs(0, 2, 16, 8, 2, 90, 4, 2, 90, 0, 2, 90), 4, nil},
		"the way there and back":            {lone(1), jobs(0, 2, 24, 8, 2, 24, 4, 2, 24, 0, 2, 24), 4, []int{0, 1, 2, 3}},
		"a way that is not the first one":   {lone(1), jobs(0, 2, 24, 4, 2, 24, 0, 2, 24, 8, 2, 24), 4, []int{0, 1, 3, 2}},
		"six jobs":                          {lone(0), jobs(0, 2, 12, 0, 2, 12, 0, 2, 12, 0, 2, 12, 0, 2, 12, 0, 2, 12), 6, []int{0, 1, 2, 3, 4, 5}},
		"six jobs, one too late":            {lone(0), jobs(0, 2, 12, 0, 2, 12, 0, 2, 12, 0, 2, 12, 0, 2, 12, 0, 2, 11), 8, nil},
		"six jobs, one of them three times": {lone(0), jobs(0, 2, 18, 0, 2, 18, 0, 2, 18, 0, 2, 6, 0, 2, 18, 0, 2, 18), 8, []int{0, 1, 3, 2, 3, 4, 5, 3}},
		"six jobs, one of them four times":  {lone(0), jobs(0, 2, 18, 0, 2, 18, 0, 2, 18, 0, 2, 5, 0, 2, 18, 0, 2, 18), 8, nil},
		"six jobs, one of them twice":       {lone(0), jobs(0, 2, 14, 0, 2, 14, 0, 2, 14, 0, 2, 8, 0, 2, 14, 0, 2, 14), 8, []int{0, 1, 2, 3, 4, 5, 3}},
		"eight elements":                    {lone(0), jobs(0, 2, 16, 0, 2, 16, 0, 2, 16, 0, 2, 8, 0, 2, 8, 0, 2, 16), 8, []int{0, 1, 3, 4, 2, 5, 3, 4}},
		"eight elements, one less":          {lone(0), jobs(0, 2, 16, 0, 2, 16, 0, 2, 16, 0, 2, 8, 0, 2, 8, 0, 2, 16), 7, nil},
	} {
		round, e := plan.Best(x.r, x.l, x.most)
		if !slices.Equal(round, x.want) || (e == api.OK) != (len(x.want) > 0) || e != api.OK && e != api.ErrNone {
			t.Errorf("%s: %v %d, want %v", what, round, e, x.want)
		}
	}
}

// reach returns up to which length all rounds of some jobs can be tried.
func reach(jobs int) int { return []int{0, 8, 7, 6, 5, 5}[jobs] }

// P6.3: of all rounds the first one.
func TestBest(t *testing.T) {
	n := &noise{state: 12}
	longer, none := 0, 0
	for i := range 1500 {
		r, count := n.radar(), 1+n.upTo(3)
		if i%100 == 0 {
			count = 5
		}
		l := n.jobs(r, count)
		most := 1 + n.upTo(reach(count)-1)
		if n.upTo(1) == 0 {
			l = n.suited(r, l, n.round(count, reach(count)), n.of(0, 2))
			most = n.of(most, reach(count))
		}
		round, e := plan.Best(r, l, most)
		want, f := wantBest(r, l, most)
		if !slices.Equal(round, want) || e != f {
			t.Fatalf("Best(%v, %v, %d): %v %d, want %v %d", r, l, most, round, e, want, f)
		}
		if e != api.OK {
			none++
		} else if len(round) > count {
			longer++
		}
	}
	if longer < 40 || none < 300 || none > 1200 {
		t.Errorf("%d rounds are longer than they need be for all jobs, %d times there is none", longer, none)
	}
}

// P6.3: the greatest lengths that are allowed.
func TestBestRange(t *testing.T) {
	checkLimits(t, "most", 1, 8, func(n int) api.Errno {
		round, e := plan.Best(radar(), both()[:1], n)
		if e != api.OK && len(round) > 0 {
			t.Errorf("Best up to %d: %v with the error %d", n, round, e)
		}
		return e
	})
	for _, most := range []int{0, 9} {
		if round, e := plan.Best(radar(), three(), most); e != api.ErrRange || len(round) > 0 {
			t.Errorf("Best of three up to %d: %v %d", most, round, e)
		}
	}
}

// P6.6: a round that is kept, repeated, lets no job wait for too long; and
// slacks are the same wherever it begins.
func TestKept(t *testing.T) {
	n := &noise{state: 13}
	for range 400 {
		r, count := n.radar(), 1+n.upTo(5)
		round := n.round(count, 12)
		l := n.suited(r, n.jobs(r, count), round, n.of(0, 9))
		slacks := mustJudge(t, r, l, round)
		if slices.Min(slacks) < 0 {
			t.Fatalf("Judge(%v, %v, %v): %v", r, l, round, slacks)
		}
		numbers := slices.Repeat(round, 20)
		begins := wantBegins(r, named(l, numbers))
		for k, j := range l {
			if longest := slices.Max(wantGaps(numbers, begins, k)); longest != j.Every-slacks[k] {
				t.Fatalf("%v, %v, %v: the job %d waits for %d, but its slack is %d", r, l, round, k, longest, slacks[k])
			}
		}
		for i := range round {
			turned := append(slices.Clone(round[i:]), round[:i]...)
			if got := mustJudge(t, r, l, turned); !slices.Equal(got, slacks) {
				t.Fatalf("Judge(%v, %v, %v): %v, but %v for %v", r, l, round, slacks, got, turned)
			}
		}
	}
}

// P6.7: what is best is kept, is the same with a greater length, is none with a
// lesser one, and nothing refutes it.
func TestBestIsKept(t *testing.T) {
	n := &noise{state: 14}
	some := 0
	for range 300 {
		r, count := n.radar(), 1+n.upTo(4)
		l := n.suited(r, n.jobs(r, count), n.round(count, 7), n.of(0, 3))
		round, e := plan.Best(r, l, 8)
		if e != api.OK {
			t.Fatalf("Best(%v, %v): error %d, but there is a round", r, l, e)
		}
		if slices.Min(mustJudge(t, r, l, round)) < 0 {
			t.Fatalf("Best(%v, %v): %v, not kept", r, l, round)
		}
		for most := 1; most <= 8; most++ {
			other, e := plan.Best(r, l, most)
			if most < len(round) && e != api.ErrNone || most >= len(round) && (e != api.OK || !slices.Equal(other, round)) {
				t.Fatalf("Best(%v, %v, %d): %v %d, but up to 8 %v", r, l, most, other, e, round)
			}
			if proof, e := plan.Refute(r, l, most); e != api.ErrNone || len(proof) > 0 {
				t.Fatalf("Refute(%v, %v, %d): %v %d, but there is the round %v", r, l, most, proof, e, round)
			}
		}
		if len(round) > count {
			some++
		}
	}
	if some < 30 {
		t.Errorf("only %d rounds are longer than they need be for all jobs", some)
	}
}

// P6.9: with more time a round that is kept remains so, and no slack is less.
func TestMoreTime(t *testing.T) {
	n := &noise{state: 15}
	more := 0
	for range 2000 {
		r, count := n.radar(), 1+n.upTo(5)
		r.Turn, r.Duty = n.upTo(15), 1+n.upTo(200)
		round := n.round(count, 12)
		l := n.suited(r, n.jobs(r, count), round, 3)
		before := mustJudge(t, r, l, round)
		i := n.upTo(count - 1)
		switch n.upTo(3) {
		case 0:
			l[i].Every += n.upTo(9)
		case 1:
			r.Turn -= n.upTo(r.Turn)
		case 2:
			r.Move -= n.upTo(r.Move)
		case 3:
			r.Duty += n.upTo(1000 - r.Duty)
		}
		after := mustJudge(t, r, l, round)
		for k := range l {
			if before[k] < 0 || after[k] < before[k] {
				t.Fatalf("%v, %v, %v: the slacks %v, and %v before", r, l, round, after, before)
			}
		}
		if !slices.Equal(before, after) {
			more++
		}
	}
	if more < 500 {
		t.Errorf("only %d slacks are greater", more)
	}
}
