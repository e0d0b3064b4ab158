package plan_test

import (
	"iter"
	"math"
	"math/big"
	"slices"
	"testing"

	"radome/api"
	"radome/plan"
	"radome/pulse"
)

// The functions named want.. follow the definitions of the chapter word by
// word, so that they share nothing with the package.

const maxTime = 4294967296

// radar, jobA, jobB and jobC are those of the chapter's examples.
func radar() plan.Radar { return plan.Radar{Rays: 4, Turn: 0, Move: 1, Duty: 1000} }

func jobA() plan.Job { return job(0, 5, 60) }

func jobB() plan.Job { return job(2, 5, 50) }

func jobC() plan.Job { return job(10, 5, 40) }

func both() []plan.Job { return []plan.Job{jobA(), jobB()} }

func three() []plan.Job { return []plan.Job{jobA(), jobB(), jobC()} }

// job returns one that takes so many milliseconds for each ray.
func job(tilt, count, every int) plan.Job {
	return plan.Job{Tilt: tilt, Train: one(1000, count), Width: 10, Every: every}
}

func one(first, count int) pulse.Train {
	return pulse.Train{Lambda: 100000, Kind: pulse.One, First: first, Count: count}
}

func two(first, second, count int) pulse.Train {
	return pulse.Train{Lambda: 53321, Kind: pulse.Two, First: first, Second: second, Count: count}
}

func turns(first, second, count int) pulse.Train {
	return pulse.Train{Lambda: 1000000, Kind: pulse.Turns, First: first, Second: second, Count: count}
}

// lone is a radar for which a job takes so many milliseconds as its train has
// pulses.
func lone(move int) plan.Radar { return plan.Radar{Rays: 1, Move: move, Duty: 1000} }

// jobs returns those with tilts, counts and greatest times in threes.
func jobs(l ...int) []plan.Job {
	var all []plan.Job
	for i := 0; i+2 < len(l); i += 3 {
		all = append(all, job(l[i], l[i+1], l[i+2]))
	}
	return all
}

// cut returns one with the job that is late, and the sequence.
func cut(late int, begin ...int) plan.Cut { return plan.Cut{Begin: begin, Late: late} }

// extremes are numbers that no argument may be spoiled by.
func extremes() []int {
	return []int{math.MinInt, math.MinInt + 1, -1 << 32, -1, 0, 1, 2, 3, 1000, 1 << 32, math.MaxInt - 1, math.MaxInt}
}

func ceil(num, den int) int {
	x := big.NewRat(int64(-num), int64(den))
	return -int(new(big.Int).Div(x.Num(), x.Denom()).Int64())
}

// wantTime adds the times of all pulses, one by one.
func wantTime(r plan.Radar, j plan.Job) int {
	p := 0
	for pulseNumber := range j.Train.Count {
		isFirst := true
		switch j.Train.Kind {
		case pulse.Two:
			isFirst = pulseNumber < j.Train.Count/2
		case pulse.Turns:
			isFirst = pulseNumber%2 == 0
		}
		if isFirst {
			p += j.Train.First
		} else {
			p += j.Train.Second
		}
	}
	return max(r.Turn, ceil(r.Rays*max(p, ceil(100*j.Train.Count*j.Width, r.Duty)), 1000))
}

func wantMove(r plan.Radar, a, b plan.Job) int {
	tilts := a.Tilt - b.Tilt
	if tilts < 0 {
		tilts = -tilts
	}
	return r.Move * tilts
}

// wantBegins returns when jobs begin that are done one behind the other.
func wantBegins(r plan.Radar, l []plan.Job) []int {
	var begins []int
	now := 0
	for i, j := range l {
		if i > 0 {
			now += wantMove(r, l[i-1], j)
		}
		begins = append(begins, now)
		now += wantTime(r, j)
	}
	return begins
}

// named returns the jobs with some numbers.
func named(l []plan.Job, numbers []int) []plan.Job {
	var all []plan.Job
	for _, k := range numbers {
		all = append(all, l[k])
	}
	return all
}

// wantLength returns how long a round takes, with the way back.
func wantLength(r plan.Radar, l []plan.Job, round []int) int {
	begins := wantBegins(r, named(l, append(slices.Clone(round), round[0])))
	return begins[len(round)]
}

// wantGaps returns the times from each beginning of a job to its next one.
func wantGaps(numbers, begins []int, job int) []int {
	var gaps []int
	last := -1
	for i, k := range numbers {
		if k != job {
			continue
		}
		if last >= 0 {
			gaps = append(gaps, begins[i]-begins[last])
		}
		last = i
	}
	return gaps
}

// wantSlacks repeats a round some times.
func wantSlacks(r plan.Radar, l []plan.Job, round []int) []int {
	numbers := slices.Repeat(round, 3)
	begins := wantBegins(r, named(l, numbers))
	var slacks []int
	for k, j := range l {
		slacks = append(slacks, j.Every-slices.Max(wantGaps(numbers, begins, k)))
	}
	return slacks
}

func wantKept(r plan.Radar, l []plan.Job, round []int) bool {
	for k := range l {
		if !slices.Contains(round, k) {
			return false
		}
	}
	return slices.Min(wantSlacks(r, l, round)) >= 0
}

func wantLate(r plan.Radar, l []plan.Job, sequence []int, late int) bool {
	done := named(l, append(slices.Clone(sequence), late))
	begins := wantBegins(r, done)
	e, j := begins[len(sequence)], l[late]
	for i := len(sequence) - 1; i >= 0; i-- {
		if sequence[i] == late {
			return e-begins[i] > j.Every
		}
	}
	return e+wantTime(r, j)+wantMove(r, j, done[0]) > j.Every
}

// wantFirstLate returns the first job that is late behind a sequence, or -1.
func wantFirstLate(r plan.Radar, l []plan.Job, sequence []int) int {
	for k := range l {
		if wantLate(r, l, sequence, k) {
			return k
		}
	}
	return -1
}

// sequences yields all that have so many of some numbers, in order.
func sequences(numbers, count int) iter.Seq[[]int] {
	return func(yield func([]int) bool) {
		l := make([]int, count)
		for {
			if !yield(slices.Clone(l)) {
				return
			}
			i := count - 1
			for i >= 0 && l[i] == numbers-1 {
				l[i] = 0
				i--
			}
			if i < 0 {
				return
			}
			l[i]++
		}
	}
}

// wantBest tries all rounds.
func wantBest(r plan.Radar, l []plan.Job, most int) ([]int, api.Errno) {
	for count := 1; count <= most; count++ {
		for round := range sequences(len(l), count) {
			if wantKept(r, l, round) {
				return round, api.OK
			}
		}
	}
	return nil, api.ErrNone
}

// wantRefute takes all sequences, and for each one its shortest beginning with
// a job that is late.
func wantRefute(r plan.Radar, l []plan.Job, most int) ([]plan.Cut, api.Errno) {
	var proof []plan.Cut
	for s := range sequences(len(l), most) {
		if k := len(proof) - 1; k >= 0 && slices.Equal(s[:len(proof[k].Begin)], proof[k].Begin) {
			continue
		}
		late, length := -1, 0
		for late < 0 && length < most {
			length++
			late = wantFirstLate(r, l, s[:length])
		}
		if late < 0 {
			return nil, api.ErrNone
		}
		proof = append(proof, plan.Cut{Begin: s[:length], Late: late})
	}
	if len(proof) > 5000 {
		return nil, api.ErrMany
	}
	return proof, api.OK
}

// wantProof asks each cut whether it is one, and all of them together whether
// they are in order, none begins another one, and their shares of all sequences
// are the whole.
func wantProof(r plan.Radar, l []plan.Job, proof []plan.Cut) bool {
	whole := new(big.Rat)
	for i, c := range proof {
		if len(c.Begin) < 1 || len(c.Begin) > 16 || c.Late < 0 || c.Late >= len(l) {
			return false
		}
		share := big.NewRat(1, 1)
		for _, k := range c.Begin {
			if k < 0 || k >= len(l) {
				return false
			}
			share.Mul(share, big.NewRat(1, int64(len(l))))
		}
		whole.Add(whole, share)
		if !wantLate(r, l, c.Begin, c.Late) {
			return false
		}
		if i > 0 && !isBefore(proof[i-1].Begin, c.Begin) {
			return false
		}
	}
	return whole.Cmp(big.NewRat(1, 1)) == 0
}

// isBefore reports whether a sequence has the lesser job at the first place
// where two sequences differ; there is such a place.
func isBefore(a, b []int) bool {
	for i := 0; i < len(a) && i < len(b); i++ {
		if a[i] != b[i] {
			return a[i] < b[i]
		}
	}
	return false
}

// noise yields numbers that look like random ones, and are always the same.
type noise struct{ state uint64 }

func (n *noise) upTo(most int) int {
	n.state = n.state*6364136223846793005 + 1442695040888963407
	return int(n.state>>33) % (most + 1)
}

func (n *noise) of(l ...int) int { return l[n.upTo(len(l)-1)] }

// train returns one of any kind.
func (n *noise) train() pulse.Train {
	first := 200 + n.upTo(4799)
	second := first + 1 + n.upTo(4999-first)
	switch n.of(pulse.One, pulse.Two, pulse.Turns) {
	case pulse.One:
		return one(first, 2+n.upTo(62))
	case pulse.Two:
		return two(first, second, 4+2*n.upTo(30))
	}
	return turns(first, second, 3+n.upTo(61))
}

// jobs returns some that take a few milliseconds for each ray, and may wait for
// about so long as all of them take, or for a few times that.
func (n *noise) jobs(r plan.Radar, count int) []plan.Job {
	var l []plan.Job
	all, high := 0, n.of(0, 2, 8)
	for range count {
		j := job(n.upTo(high), 2+n.upTo(10), 1)
		if n.upTo(9) == 0 {
			j.Train = turns(500, 1000+n.upTo(2000), 3+n.upTo(4))
		}
		all += wantTime(r, j) + r.Move*high/2
		l = append(l, j)
	}
	part := n.of(30, 60, 90, 100, 120)
	for i := range l {
		l[i].Every = max(1, all*part/100*(1+n.upTo(n.of(0, 1, 2)))+n.upTo(all/4+1))
	}
	return l
}

// radar returns one for which jobs take a few milliseconds.
func (n *noise) radar() plan.Radar {
	return plan.Radar{Rays: 1 + n.upTo(2), Turn: n.of(0, 0, 0, 5), Move: n.upTo(n.of(0, 1, 5)), Duty: 500 + n.upTo(500)}
}

// round returns one that has all jobs, some of them more than once.
func (n *noise) round(jobs, most int) []int {
	var l []int
	for k := range jobs {
		l = slices.Insert(l, n.upTo(len(l)), k)
	}
	for range n.upTo(most - jobs) {
		l = slices.Insert(l, n.upTo(len(l)), n.upTo(jobs-1))
	}
	return l
}

// suited returns jobs that a round suits, just so or with some time left.
func (n *noise) suited(r plan.Radar, l []plan.Job, round []int, spare int) []plan.Job {
	suited := slices.Clone(l)
	for k, slack := range wantSlacks(r, l, round) {
		suited[k].Every = max(1, l[k].Every-slack+n.upTo(spare))
	}
	return suited
}

func mustJudge(t *testing.T, r plan.Radar, l []plan.Job, round []int) []int {
	t.Helper()
	slacks, e := plan.Judge(r, l, round)
	if e != api.OK || len(slacks) != len(l) {
		t.Fatalf("Judge(%v, %v, %v): %v, error %d", r, l, round, slacks, e)
	}
	return slacks
}

func sameCuts(a, b []plan.Cut) bool {
	return slices.EqualFunc(a, b, func(c, d plan.Cut) bool {
		return c.Late == d.Late && slices.Equal(c.Begin, d.Begin)
	})
}

func cloneCuts(l []plan.Cut) []plan.Cut {
	var all []plan.Cut
	for _, c := range l {
		all = append(all, plan.Cut{Begin: slices.Clone(c.Begin), Late: c.Late})
	}
	return all
}

func wantErr(t *testing.T, what string, got, want api.Errno) {
	t.Helper()
	if got != want {
		t.Errorf("%s: error %d, want %d", what, got, want)
	}
}

// checkLimits checks that a number is valid from the least one to the most.
func checkLimits(t *testing.T, what string, least, most int, check func(n int) api.Errno) {
	t.Helper()
	for n, want := range map[int]api.Errno{
		least: api.OK, most: api.OK,
		least - 1: api.ErrRange, most + 1: api.ErrRange, math.MinInt: api.ErrRange, math.MaxInt: api.ErrRange,
	} {
		if e := check(n); e != want {
			t.Errorf("%s %d: error %d, want %d", what, n, e, want)
		}
	}
}
