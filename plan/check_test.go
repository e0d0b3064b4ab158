package plan_test

import (
	"slices"
	"testing"

	"radome/api"
	"radome/plan"
	"radome/pulse"
)

// P6.1: the examples.
func TestTimeExamples(t *testing.T) {
	slow, lazy, other := radar(), radar(), jobA()
	slow.Turn, lazy.Duty = 30, 1
	other.Train = turns(1000, 2000, 3)
	for _, x := range []struct {
		r    plan.Radar
		j    plan.Job
		want int
	}{
		{radar(), jobA(), 20}, {slow, jobA(), 30}, {lazy, jobA(), 20}, {radar(), other, 16},
	} {
		if got, e := plan.Time(x.r, x.j); got != x.want || e != api.OK {
			t.Errorf("Time(%v, %v): %d %d, want %d", x.r, x.j, got, e, x.want)
		}
	}
}

// P6.1: trains of each kind with even and odd counts; duties that decide, and
// turns that do; and what is rounded.
func TestTimes(t *testing.T) {
	for what, x := range map[string]struct {
		r     plan.Radar
		train pulse.Train
		width int
		want  int
	}{
		"one, even":                        {lone(0), one(1000, 4), 1, 4},
		"one, odd":                         {lone(0), one(1000, 7), 1, 7},
		"one, the least":                   {lone(0), one(200, 2), 1, 1},
		"one, the greatest":                {plan.Radar{Rays: 360, Duty: 1000}, one(5000, 64), 1, 115200},
		"two, the least":                   {lone(0), two(1000, 3000, 4), 1, 8},
		"two, halves with odd counts":      {lone(0), two(1000, 3000, 6), 1, 12},
		"two, the greatest":                {plan.Radar{Rays: 360, Duty: 1000}, two(4999, 5000, 64), 1, 115189},
		"turns, even":                      {lone(0), turns(1000, 3000, 4), 1, 8},
		"turns, odd":                       {lone(0), turns(1000, 3000, 5), 1, 9},
		"turns, the least":                 {lone(0), turns(1000, 3000, 3), 1, 5},
		"turns, the greatest":              {plan.Radar{Rays: 360, Duty: 1000}, turns(4999, 5000, 64), 1, 115189},
		"no whole milliseconds":            {lone(0), one(333, 4), 1, 2},
		"just whole milliseconds":          {lone(0), one(500, 4), 1, 2},
		"just above whole milliseconds":    {lone(0), one(667, 3), 1, 3},
		"rounded for all rays together":    {plan.Radar{Rays: 3, Duty: 1000}, one(667, 2), 1, 5},
		"a duty that just does not decide": {plan.Radar{Rays: 1, Duty: 5}, one(1000, 4), 50, 4},
		"a duty that just decides":         {plan.Radar{Rays: 1, Duty: 5}, one(1000, 4), 51, 5},
		"a duty that decides":              {plan.Radar{Rays: 1, Duty: 10}, one(200, 8), 1000, 80},
		"a duty rounded up":                {plan.Radar{Rays: 10, Duty: 3}, one(200, 2), 100, 67},
		"rounded up, and then again":       {plan.Radar{Rays: 3, Duty: 3}, one(200, 2), 100, 21},
		"rounded up only at last":          {plan.Radar{Rays: 3, Duty: 300}, one(200, 2), 1000, 3},
		"the least duty":                   {plan.Radar{Rays: 360, Duty: 1}, one(5000, 64), 1000, 2304000},
		"a turn that just does not decide": {plan.Radar{Rays: 4, Turn: 20, Duty: 1000}, one(1000, 5), 1, 20},
		"a turn that just decides":         {plan.Radar{Rays: 4, Turn: 21, Duty: 1000}, one(1000, 5), 1, 21},
		"the greatest turn":                {plan.Radar{Rays: 360, Turn: 600000, Duty: 1000}, one(5000, 64), 1, 600000},
		"a duty ahead of a turn":           {plan.Radar{Rays: 360, Turn: 600000, Duty: 1}, one(200, 64), 1000, 2304000},
	} {
		j := plan.Job{Train: x.train, Width: x.width, Every: 1}
		if got, e := plan.Time(x.r, j); got != x.want || e != api.OK {
			t.Errorf("%s: %d %d, want %d", what, got, e, x.want)
		}
	}
}

// P6.1: times against their definition; what else a job asks for says nothing.
func TestTime(t *testing.T) {
	n := &noise{state: 1}
	decides := map[string]int{}
	for range 5000 {
		r := plan.Radar{Rays: 1 + n.upTo(359), Turn: n.of(0, n.upTo(600000)), Move: n.upTo(10000), Duty: n.of(1, 1+n.upTo(99), 1+n.upTo(999), 1000)}
		j := plan.Job{Tilt: n.upTo(256), Train: n.train(), Width: 1 + n.upTo(n.of(9, 99, 999)), Every: 1 + n.upTo(99999999)}
		got, e := plan.Time(r, j)
		if want := wantTime(r, j); got != want || e != api.OK {
			t.Fatalf("Time(%v, %v): %d %d, want %d", r, j, got, e, want)
		}
		free, sharp := r, j
		free.Turn, sharp.Width = 0, 1
		switch {
		case wantTime(free, j) < got:
			decides["the turn"]++
		case wantTime(r, sharp) < got:
			decides["the duty"]++
		default:
			decides["the train"]++
		}
	}
	for _, what := range []string{"the turn", "the duty", "the train"} {
		if decides[what] < 500 {
			t.Errorf("%s decides %d times", what, decides[what])
		}
	}
}

// check returns the error of Check, which is that of Time too if there is one
// job.
func check(t *testing.T, r plan.Radar, l ...plan.Job) api.Errno {
	t.Helper()
	e := plan.Check(r, l)
	if len(l) == 1 {
		time, f := plan.Time(r, l[0])
		if f != e || e != api.OK && time != 0 {
			t.Errorf("Time(%v, %v): %d %d, but Check %d", r, l[0], time, f, e)
		}
	}
	return e
}

// P6.1: each number of a radar and of a job.
func TestCheckRanges(t *testing.T) {
	of := func(change func(r *plan.Radar, j *plan.Job, n int)) func(n int) api.Errno {
		return func(n int) api.Errno {
			r, j := radar(), jobA()
			change(&r, &j, n)
			e := check(t, r, j)
			wantErr(t, "the last one of three", check(t, r, jobA(), jobB(), j), e)
			return e
		}
	}
	checkLimits(t, "Rays", 1, 360, of(func(r *plan.Radar, j *plan.Job, n int) { r.Rays = n }))
	checkLimits(t, "Turn", 0, 600000, of(func(r *plan.Radar, j *plan.Job, n int) { r.Turn = n }))
	checkLimits(t, "Move", 0, 10000, of(func(r *plan.Radar, j *plan.Job, n int) { r.Move = n }))
	checkLimits(t, "Duty", 1, 1000, of(func(r *plan.Radar, j *plan.Job, n int) { r.Duty = n }))
	checkLimits(t, "Tilt", 0, 256, of(func(r *plan.Radar, j *plan.Job, n int) { j.Tilt = n }))
	checkLimits(t, "Width", 1, 1000, of(func(r *plan.Radar, j *plan.Job, n int) { j.Width = n }))
	checkLimits(t, "Every", 1, 100000000, of(func(r *plan.Radar, j *plan.Job, n int) { j.Every = n }))
	checkLimits(t, "Lambda", 10000, 1000000, of(func(r *plan.Radar, j *plan.Job, n int) { j.Train.Lambda = n }))
	checkLimits(t, "First", 200, 5000, of(func(r *plan.Radar, j *plan.Job, n int) { j.Train.First = n }))
	checkLimits(t, "Second", 0, 0, of(func(r *plan.Radar, j *plan.Job, n int) { j.Train.Second = n }))
	checkLimits(t, "Count", 2, 64, of(func(r *plan.Radar, j *plan.Job, n int) { j.Train.Count = n }))
}

// badJobs are one that is out of range itself, and one whose train is of no
// kind.
func badJobs() (far, odd plan.Job) {
	far, odd = jobA(), jobA()
	far.Every, odd.Train.Kind = 0, 4
	return far, odd
}

// P6.1: which error comes first: that of the radar, how many jobs there are,
// and the first job with an error.
func TestCheckErrors(t *testing.T) {
	far, odd := badJobs()
	worst := odd
	worst.Tilt = 257
	blind := radar()
	blind.Rays = 0
	for what, x := range map[string]struct {
		r    plan.Radar
		l    []plan.Job
		want api.Errno
	}{
		"one job":                             {radar(), []plan.Job{jobA()}, api.OK},
		"six jobs":                            {radar(), slices.Repeat(three(), 2), api.OK},
		"seven jobs":                          {radar(), append(slices.Repeat(three(), 2), jobA()), api.ErrMany},
		"no jobs":                             {radar(), nil, api.ErrMany},
		"an empty list":                       {radar(), []plan.Job{}, api.ErrMany},
		"seven that are not valid":            {radar(), slices.Repeat([]plan.Job{far}, 7), api.ErrMany},
		"the radar ahead of how many":         {blind, nil, api.ErrRange},
		"the radar ahead of the jobs":         {blind, []plan.Job{odd}, api.ErrRange},
		"no radar at all":                     {plan.Radar{}, both(), api.ErrRange},
		"no job at all":                       {radar(), []plan.Job{{}}, api.ErrRange},
		"a train of no kind":                  {radar(), []plan.Job{odd}, api.ErrArg},
		"a job ahead of its train":            {radar(), []plan.Job{worst}, api.ErrRange},
		"a train in an earlier job":           {radar(), []plan.Job{jobA(), odd, far}, api.ErrArg},
		"a number in an earlier job":          {radar(), []plan.Job{jobA(), far, odd}, api.ErrRange},
		"the last one":                        {radar(), append(slices.Repeat([]plan.Job{jobA()}, 5), odd), api.ErrArg},
		"the kind ahead of the train's times": {radar(), []plan.Job{{Train: pulse.Train{}, Width: 1, Every: 1}}, api.ErrArg},
	} {
		wantErr(t, what, check(t, x.r, x.l...), x.want)
	}
}

// P6.1: all other functions return the error of Check ahead of all others.
func TestCheckFirst(t *testing.T) {
	far, odd := badJobs()
	blind := radar()
	blind.Duty = 1001
	for _, x := range []struct {
		r plan.Radar
		l []plan.Job
	}{{blind, nil}, {radar(), nil}, {radar(), []plan.Job{odd, far}}, {radar(), []plan.Job{jobA(), far}}} {
		want := plan.Check(x.r, x.l)
		slacks, e1 := plan.Judge(x.r, x.l, nil)
		round, e2 := plan.Best(x.r, x.l, 0)
		proof, e3 := plan.Refute(x.r, x.l, 9)
		e4 := plan.Verify(x.r, x.l, make([]plan.Cut, 5001))
		entry, ray, e5 := plan.Where(x.r, x.l, []int{-1}, -1)
		place, e6 := plan.Insert(x.r, x.l, make([]int, 13), plan.Job{}, -1)
		for i, e := range []api.Errno{e1, e2, e3, e4, e5, e6} {
			if e != want || want == api.OK {
				t.Errorf("the function %d of %v, %v: error %d, want %d", i, x.r, x.l, e, want)
			}
		}
		if len(slacks)+len(round)+len(proof)+entry+ray+place != 0 {
			t.Errorf("%v, %v: %v %v %v %d %d %d", x.r, x.l, slacks, round, proof, entry, ray, place)
		}
	}
}
