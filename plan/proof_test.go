package plan_test

import (
	"slices"
	"testing"

	"radome/api"
	"radome/plan"
)

// exampleProof is that of the chapter's example.
func exampleProof() []plan.Cut { return []plan.Cut{cut(2, 0), cut(2, 1), cut(1, 2)} }

// hasty are jobs that are late behind any sequence that ends with them.
func hasty() []plan.Job { return jobs(0, 5, 19, 0, 5, 19) }

// P6.4: the examples, and sequences that have to be longer.
func TestRefuteExamples(t *testing.T) {
	for what, x := range map[string]struct {
		r    plan.Radar
		l    []plan.Job
		most int
		want []plan.Cut
	}{
		"the example":                     {radar(), three(), 2, exampleProof()},
		"the example, at once":            {radar(), three(), 1, exampleProof()},
		"with longer ones":                {radar(), three(), 8, exampleProof()},
		"of two":                          {radar(), both(), 2, nil},
		"of two, longer":                  {radar(), both(), 8, nil},
		"one job that is late":            {radar(), jobs(0, 5, 19), 1, []plan.Cut{cut(0, 0)}},
		"one job that is just not late":   {radar(), jobs(0, 5, 20), 8, nil},
		"the first one that is late":      {radar(), jobs(0, 5, 19, 0, 5, 39), 8, []plan.Cut{cut(0, 0), cut(0, 1)}},
		"late with the way back":          {radar(), jobs(0, 5, 99, 2, 5, 43), 8, []plan.Cut{cut(1, 0), cut(1, 1, 0), cut(1, 1, 1, 0), cut(1, 1, 1, 1, 0), cut(0, 1, 1, 1, 1)}},
		"late with the way back, shorter": {radar(), jobs(0, 5, 99, 2, 5, 43), 3, nil},
		"just not late with the way back": {radar(), jobs(0, 5, 99, 2, 5, 44), 8, nil},
		"a job among two others": {
			lone(0), jobs(0, 2, 6, 0, 2, 4, 0, 2, 5), 8, []plan.Cut{
				cut(1, 0, 0), cut(2, 0, 1), cut(1, 0, 2),
				cut(2, 1, 0), cut(2, 1, 1), cut(1, 1, 2, 0), cut(0, 1, 2, 1), cut(0, 1, 2, 2),
				cut(1, 2, 0), cut(2, 2, 1, 0), cut(0, 2, 1, 1), cut(0, 2, 1, 2), cut(1, 2, 2),
			},
		},
	} {
		want, f := wantRefute(x.r, x.l, min(x.most, 5))
		if len(x.want) > 0 && !sameCuts(want, x.want) || (f == api.OK) != (len(x.want) > 0) {
			t.Errorf("%s: the definition leads to %v %d, not to %v", what, want, f, x.want)
		}
		proof, e := plan.Refute(x.r, x.l, x.most)
		if !sameCuts(proof, x.want) || (e == api.OK) != (len(x.want) > 0) || e != api.OK && e != api.ErrNone {
			t.Errorf("%s: %v %d, want %v", what, proof, e, x.want)
		}
	}
}

// P6.4: proofs against their definition; P6.8: they are accepted, and nothing
// is best then.
func TestRefute(t *testing.T) {
	n := &noise{state: 21}
	lengths, none := map[int]int{}, 0
	for range 1500 {
		r, count := n.radar(), 1+n.upTo(4)
		l := n.jobs(r, count)
		most := 1 + n.upTo(reach(count)-1)
		proof, e := plan.Refute(r, l, most)
		want, f := wantRefute(r, l, most)
		if !sameCuts(proof, want) || e != f {
			t.Fatalf("Refute(%v, %v, %d): %v %d, want %v %d", r, l, most, proof, e, want, f)
		}
		if e != api.OK {
			none++
			continue
		}
		wantErr(t, "Verify of what Refute returns", plan.Verify(r, l, proof), api.OK)
		if round, e := plan.Best(r, l, 8); e != api.ErrNone {
			t.Fatalf("Best(%v, %v): %v %d, but it was refuted", r, l, round, e)
		}
		deep := 0
		for _, c := range proof {
			deep = max(deep, len(c.Begin))
		}
		lengths[deep]++
	}
	if none < 100 || lengths[1] < 50 || lengths[3] < 20 || lengths[4] < 5 {
		t.Errorf("%d are not refuted, others with the lengths %v", none, lengths)
	}
}

// P6.4: as many cuts as there may be, and more; and a sequence behind which
// nobody is late, ahead of too many cuts, also if it comes behind them.
func TestRefuteMany(t *testing.T) {
	for what, x := range map[string]struct {
		move  int
		l     []plan.Job
		most  int
		count int
		want  api.Errno
	}{
		"4996 cuts":                   {0, jobs(1, 8, 39, 5, 4, 34, 0, 5, 42, 7, 7, 33, 5, 8, 31, 3, 8, 36), 6, 4996, api.OK},
		"the same, with longer ones":  {0, jobs(1, 8, 39, 5, 4, 34, 0, 5, 42, 7, 7, 33, 5, 8, 31, 3, 8, 36), 8, 4996, api.OK},
		"5001 cuts":                   {4, jobs(2, 5, 66, 1, 7, 89, 1, 4, 62, 2, 10, 52, 3, 6, 71, 5, 6, 67), 8, 0, api.ErrMany},
		"7776 cuts":                   {0, jobs(0, 2, 10, 0, 2, 10, 0, 2, 10, 0, 2, 10, 0, 2, 10, 0, 2, 10), 5, 0, api.ErrMany},
		"7776 cuts, too short":        {0, jobs(0, 2, 10, 0, 2, 10, 0, 2, 10, 0, 2, 10, 0, 2, 10, 0, 2, 10), 4, 0, api.ErrNone},
		"nobody is late behind 19538": {0, jobs(4, 4, 30, 6, 6, 34, 3, 4, 34, 4, 6, 37, 2, 6, 37, 5, 10, 36), 7, 0, api.ErrNone},
	} {
		proof, e := plan.Refute(lone(x.move), x.l, x.most)
		if len(proof) != x.count || e != x.want {
			t.Errorf("%s: %d cuts, error %d, want %d", what, len(proof), e, x.want)
		}
		if e == api.OK {
			wantErr(t, what, plan.Verify(lone(x.move), x.l, proof), api.OK)
		}
	}
}

// P6.4: the greatest lengths that are allowed.
func TestRefuteRange(t *testing.T) {
	checkLimits(t, "most", 1, 8, func(n int) api.Errno {
		proof, e := plan.Refute(radar(), three(), n)
		if e != api.OK && len(proof) > 0 {
			t.Errorf("Refute up to %d: %v with the error %d", n, proof, e)
		}
		return e
	})
	for _, most := range []int{0, 9} {
		if proof, e := plan.Refute(radar(), both(), most); e != api.ErrRange || len(proof) > 0 {
			t.Errorf("Refute of two up to %d: %v %d", most, proof, e)
		}
	}
}

// P6.4: proofs that prove nothing.
func TestVerifyExamples(t *testing.T) {
	for what, x := range map[string]struct {
		l     []plan.Job
		proof []plan.Cut
		want  api.Errno
	}{
		"the example":                      {three(), exampleProof(), api.OK},
		"no cuts":                          {three(), nil, api.ErrProof},
		"an empty list":                    {three(), []plan.Cut{}, api.ErrProof},
		"the first cut missing":            {three(), []plan.Cut{cut(2, 1), cut(1, 2)}, api.ErrProof},
		"a cut missing":                    {three(), []plan.Cut{cut(2, 0), cut(1, 2)}, api.ErrProof},
		"the last cut missing":             {three(), []plan.Cut{cut(2, 0), cut(2, 1)}, api.ErrProof},
		"the first cut twice":              {three(), []plan.Cut{cut(2, 0), cut(2, 0), cut(2, 1), cut(1, 2)}, api.ErrProof},
		"the last cut twice":               {three(), []plan.Cut{cut(2, 0), cut(2, 1), cut(1, 2), cut(1, 2)}, api.ErrProof},
		"all twice":                        {three(), slices.Repeat(exampleProof(), 2), api.ErrProof},
		"another order":                    {three(), []plan.Cut{cut(2, 1), cut(2, 0), cut(1, 2)}, api.ErrProof},
		"other jobs that are late, too":    {hasty(), []plan.Cut{cut(1, 0), cut(0, 1)}, api.OK},
		"a job that is not late":           {three(), []plan.Cut{cut(1, 0), cut(2, 1), cut(1, 2)}, api.ErrProof},
		"the job itself, not late":         {three(), []plan.Cut{cut(2, 0), cut(1, 1), cut(1, 2)}, api.ErrProof},
		"a job below all":                  {three(), []plan.Cut{cut(2, 0), cut(-1, 1), cut(1, 2)}, api.ErrProof},
		"a job above all":                  {three(), []plan.Cut{cut(2, 0), cut(3, 1), cut(1, 2)}, api.ErrProof},
		"a sequence without jobs":          {three(), []plan.Cut{cut(2)}, api.ErrProof},
		"one without jobs, and all others": {three(), append([]plan.Cut{cut(2)}, exampleProof()...), api.ErrProof},
		"all others, and one without jobs": {three(), append(exampleProof(), cut(2)), api.ErrProof},
		"a sequence with a job below all":  {three(), []plan.Cut{cut(2, -1), cut(2, 0), cut(2, 1), cut(1, 2)}, api.ErrProof},
		"a sequence with a job above all":  {three(), append(exampleProof(), cut(2, 3)), api.ErrProof},
		"longer than it has to be":         {three(), []plan.Cut{cut(2, 0, 0), cut(2, 0, 1), cut(1, 0, 2), cut(2, 1), cut(1, 2)}, api.OK},
		"longer, with one missing":         {three(), []plan.Cut{cut(2, 0, 0), cut(2, 0, 1), cut(2, 1), cut(1, 2)}, api.ErrProof},
		"longer, in another order":         {three(), []plan.Cut{cut(2, 0, 1), cut(2, 0, 0), cut(1, 0, 2), cut(2, 1), cut(1, 2)}, api.ErrProof},
		"longer, and not late any more":    {three(), []plan.Cut{cut(2, 0, 0), cut(2, 0, 1), cut(2, 0, 2), cut(2, 1), cut(1, 2)}, api.ErrProof},
		"one that begins the next one":     {three(), []plan.Cut{cut(2, 0), cut(2, 0, 0), cut(2, 1), cut(1, 2)}, api.ErrProof},
		"one that begins those before":     {three(), []plan.Cut{cut(2, 0, 0), cut(2, 0, 1), cut(1, 0, 2), cut(2, 0), cut(2, 1), cut(1, 2)}, api.ErrProof},
		"one that begins all others":       {hasty(), []plan.Cut{cut(0, 0), cut(0, 0, 0), cut(1, 0, 1), cut(1, 1)}, api.ErrProof},
		"nothing is late":                  {both(), []plan.Cut{cut(0, 0), cut(0, 1)}, api.ErrProof},
		"one job":                          {hasty()[:1], []plan.Cut{cut(0, 0)}, api.OK},
		"one job, later":                   {hasty()[:1], []plan.Cut{cut(0, 0, 0, 0)}, api.OK},
		"one job, twice":                   {hasty()[:1], []plan.Cut{cut(0, 0), cut(0, 0, 0)}, api.ErrProof},
		"one job that is not late":         {jobs(0, 5, 20), []plan.Cut{cut(0, 0)}, api.ErrProof},
		"sixteen jobs":                     {hasty()[:1], []plan.Cut{cut(0, make([]int, 16)...)}, api.OK},
		"seventeen jobs":                   {hasty()[:1], []plan.Cut{cut(0, make([]int, 17)...)}, api.ErrProof},
		"very many jobs":                   {hasty()[:1], []plan.Cut{cut(0, make([]int, 100000)...)}, api.ErrProof},
		"sixteen jobs of two":              {hasty(), comb(16), api.OK},
		"seventeen jobs of two":            {hasty(), comb(17), api.ErrProof},
		"5001 cuts that prove nothing":     {three(), make([]plan.Cut, 5001), api.ErrMany},
		"5000 cuts that prove nothing":     {three(), make([]plan.Cut, 5000), api.ErrProof},
		"5000 cuts":                        {hasty(), tree(5000), api.OK},
		"5001 cuts":                        {hasty(), tree(5001), api.ErrMany},
		"5000 cuts without the last one":   {hasty(), tree(5000)[:4999], api.ErrProof},
		"5000 cuts, the last one too much": {hasty(), append(tree(4999), cut(1, 1)), api.ErrProof},
	} {
		e := plan.Verify(radar(), x.l, x.proof)
		if want := wantProof(radar(), x.l, x.proof); e != x.want || want != (e == api.OK) && e != api.ErrMany {
			t.Errorf("%s: error %d, want %d (%t)", what, e, x.want, want)
		}
	}
}

// comb returns cuts of two hasty jobs: behind the other one each time, and at
// last, behind so many jobs, behind the same.
func comb(length int) []plan.Cut {
	l := []plan.Cut{cut(0, make([]int, length)...)}
	for length > 0 {
		begin := make([]int, length)
		begin[length-1] = 1
		l = append(l, cut(1, begin...))
		length--
	}
	return l
}

// tree returns so many cuts of two hasty jobs: all of 12 jobs, of which the
// first ones, as many as it takes, are one longer.
func tree(count int) []plan.Cut {
	var l []plan.Cut
	longer := count - 4096
	for s := range sequences(2, 12) {
		if longer > 0 {
			l = append(l, cut(0, append(slices.Clone(s), 0)...), cut(1, append(slices.Clone(s), 1)...))
			longer--
			continue
		}
		l = append(l, cut(s[11], s...))
	}
	return l
}

// cuts returns cuts of all sequences that begin with one, of up to five jobs:
// mostly as soon as a job is late, with any such job; and with any job at all
// if none is.
func (n *noise) cuts(r plan.Radar, l []plan.Job, begin []int) []plan.Cut {
	var late []int
	for k := range l {
		if len(begin) > 0 && wantLate(r, l, begin, k) {
			late = append(late, k)
		}
	}
	if len(late) > 0 && (len(begin) == 5 || n.upTo(5) > 0) {
		return []plan.Cut{cut(n.of(late...), begin...)}
	}
	if len(begin) == 5 {
		return []plan.Cut{cut(n.upTo(len(l)-1), begin...)}
	}
	var all []plan.Cut
	for k := range l {
		all = append(all, n.cuts(r, l, append(slices.Clone(begin), k))...)
	}
	return all
}

// spoiled returns cuts with one thing changed.
func (n *noise) spoiled(l []plan.Cut, jobs int) []plan.Cut {
	l = cloneCuts(l)
	i := n.upTo(len(l) - 1)
	c := &l[i]
	if len(c.Begin) == 0 {
		return slices.Delete(l, i, i+1)
	}
	switch n.upTo(7) {
	case 0:
		return slices.Delete(l, i, i+1)
	case 1:
		return slices.Insert(l, i, *c)
	case 2:
		j := n.upTo(len(l) - 1)
		l[i], l[j] = l[j], l[i]
	case 3:
		c.Late = n.upTo(jobs+1) - 1
	case 4:
		c.Begin = append(c.Begin, n.upTo(jobs-1))
	case 5:
		c.Begin = c.Begin[:len(c.Begin)-1]
	case 6:
		c.Begin[n.upTo(len(c.Begin)-1)] = n.upTo(jobs+1) - 1
	case 7:
		return append(l, cut(n.upTo(jobs-1), n.upTo(jobs-1)))
	}
	return l
}

// P6.4, P6.8: lists of cuts that are proofs, and others; with a proof no round
// is kept.
func TestVerify(t *testing.T) {
	n := &noise{state: 22}
	seen := map[bool]int{}
	for range 600 {
		r, count := n.radar(), 1+n.upTo(3)
		l := n.jobs(r, count)
		for k := range l {
			l[k].Every = max(1, l[k].Every*2/3)
		}
		proof := n.cuts(r, l, nil)
		for range 8 {
			e, want := plan.Verify(r, l, proof), wantProof(r, l, proof)
			if (e == api.OK) != want || e != api.OK && e != api.ErrProof {
				t.Fatalf("Verify(%v, %v, %v): error %d, want %t", r, l, proof, e, want)
			}
			seen[want]++
			if round, e := plan.Best(r, l, 8); want && e != api.ErrNone {
				t.Fatalf("Best(%v, %v): %v %d, but there is the proof %v", r, l, round, e, proof)
			}
			proof = n.spoiled(proof, count)
			if len(proof) == 0 {
				break
			}
		}
	}
	if seen[true] < 300 || seen[false] < 1000 {
		t.Errorf("proofs, and others: %v", seen)
	}
}

// P6.8: a proof from which any cut is taken away, or in which any one stands
// twice, at any place, is not accepted.
func TestCutsCount(t *testing.T) {
	n := &noise{state: 23}
	long := 0
	for range 200 {
		r, count := n.radar(), 1+n.upTo(3)
		l := n.jobs(r, count)
		proof, e := plan.Refute(r, l, 6)
		if e != api.OK || len(proof) > 60 {
			continue
		}
		long = max(long, len(proof))
		for i, c := range proof {
			less := slices.Delete(slices.Clone(proof), i, i+1)
			wantErr(t, "without a cut", plan.Verify(r, l, less), api.ErrProof)
			for j := range len(proof) + 1 {
				more := slices.Insert(slices.Clone(proof), j, c)
				wantErr(t, "with a cut twice", plan.Verify(r, l, more), api.ErrProof)
			}
		}
	}
	if long < 30 {
		t.Errorf("at most %d cuts", long)
	}
}

// P6.8: with a proof no round is kept, also if it is longer than Best's.
func TestNoRoundIsKept(t *testing.T) {
	n := &noise{state: 24}
	proofs := 0
	for range 400 {
		r, count := n.radar(), 1+n.upTo(3)
		l := n.jobs(r, count)
		proof, e := plan.Refute(r, l, 8)
		if e != api.OK || plan.Verify(r, l, proof) != api.OK {
			continue
		}
		proofs++
		for range 30 {
			round := n.round(count, 12)
			if slices.Min(mustJudge(t, r, l, round)) >= 0 {
				t.Fatalf("%v, %v: the round %v is kept, with the proof %v", r, l, round, proof)
			}
		}
	}
	if proofs < 100 {
		t.Errorf("only %d proofs", proofs)
	}
}

// P6.9: what proves something with a greater Every proves it with a less one.
func TestLessEvery(t *testing.T) {
	n := &noise{state: 25}
	proofs := 0
	for range 400 {
		r, count := n.radar(), 1+n.upTo(3)
		l := n.jobs(r, count)
		proof, e := plan.Refute(r, l, 8)
		if e != api.OK {
			continue
		}
		proofs++
		for range 5 {
			k := n.upTo(count - 1)
			l[k].Every = 1 + n.upTo(l[k].Every-1)
			wantErr(t, "Verify with less time", plan.Verify(r, l, proof), api.OK)
		}
	}
	if proofs < 100 {
		t.Errorf("only %d proofs", proofs)
	}
}
