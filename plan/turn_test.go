package plan_test

import (
	"slices"
	"testing"

	"radome/api"
	"radome/plan"
)

func mustWhere(t *testing.T, r plan.Radar, l []plan.Job, round []int, time int) (entry, ray int) {
	t.Helper()
	entry, ray, e := plan.Where(r, l, round, time)
	if e != api.OK {
		t.Fatalf("Where(%v, %v, %v, %d): error %d", r, l, round, time, e)
	}
	return entry, ray
}

// wantWhere goes through some rounds, from one that begins at the time 0.
func wantWhere(r plan.Radar, l []plan.Job, round []int, time int) (entry, ray int) {
	numbers := slices.Repeat(round, time/wantLength(r, l, round)+1)
	begins := wantBegins(r, named(l, numbers))
	last := 0
	for i, begin := range begins {
		if begin <= time {
			last = i
		}
	}
	since, whole := time-begins[last], wantTime(r, l[numbers[last]])
	if since >= whole {
		return last % len(round), -1
	}
	return last % len(round), since * r.Rays / whole
}

// P6.5: the examples; the beginnings and the ends of elements, also in later
// rounds; and the ends of what is allowed.
func TestWhereExamples(t *testing.T) {
	slow := radar()
	slow.Turn = 30
	for _, x := range []struct {
		r          plan.Radar
		l          []plan.Job
		round      []int
		time       int
		entry, ray int
	}{
		{radar(), both(), []int{0, 1}, 7, 0, 1},
		{radar(), both(), []int{0, 1}, 21, 0, -1},
		{radar(), both(), []int{0, 1}, 44, 0, 0},
		{radar(), both(), []int{0, 1}, 0, 0, 0},
		{radar(), both(), []int{0, 1}, 4, 0, 0},
		{radar(), both(), []int{0, 1}, 5, 0, 1},
		{radar(), both(), []int{0, 1}, 19, 0, 3},
		{radar(), both(), []int{0, 1}, 20, 0, -1},
		{radar(), both(), []int{0, 1}, 22, 1, 0},
		{radar(), both(), []int{0, 1}, 41, 1, 3},
		{radar(), both(), []int{0, 1}, 42, 1, -1},
		{radar(), both(), []int{0, 1}, 43, 1, -1},
		{radar(), both(), []int{0, 1}, 44000021, 0, -1},
		{radar(), both(), []int{0, 1}, 44000041, 1, 3},
		{radar(), both(), []int{0, 1}, maxTime, 0, 0}, // 4 modulo 44
		{radar(), both(), []int{1, 0}, 7, 0, 1},
		{radar(), both(), []int{0, 0, 1}, 19, 0, 3},
		{radar(), both(), []int{0, 0, 1}, 20, 1, 0},
		{radar(), both(), []int{0, 1, 0}, 63, 2, 3},
		{radar(), both(), []int{0, 1, 0}, 64, 0, 0},
		{radar(), both()[:1], []int{0}, 19, 0, 3},
		{radar(), both()[:1], []int{0}, 20, 0, 0},
		{radar(), both()[:1], []int{0, 0}, 20, 1, 0},
		{radar(), both()[:1], make([]int, 12), 239, 11, 3},
		{radar(), both()[:1], make([]int, 12), 240, 0, 0},
		{slow, both(), []int{0, 1}, 7, 0, 0},
		{slow, both(), []int{0, 1}, 8, 0, 1},
		{slow, both(), []int{0, 1}, 29, 0, 3},
		{slow, both(), []int{0, 1}, 30, 0, -1},
		{lone(0), jobs(0, 2, 9, 0, 3, 9), []int{0, 1}, 1, 0, 0},
		{lone(0), jobs(0, 2, 9, 0, 3, 9), []int{0, 1}, 2, 1, 0},
	} {
		if entry, ray := mustWhere(t, x.r, x.l, x.round, x.time); entry != x.entry || ray != x.ray {
			t.Errorf("Where of %d jobs, the round %v at %d: %d, ray %d, want %d, ray %d", len(x.l), x.round, x.time, entry, ray, x.entry, x.ray)
		}
	}
}

// P6.5: every millisecond of some rounds, and the same far away.
func TestWhere(t *testing.T) {
	n := &noise{state: 31}
	moving := 0
	for range 60 {
		r, count := n.radar(), 1+n.upTo(5)
		r.Rays = n.of(1, 4, 50, 360)
		round := n.round(count, 12)
		l := n.jobs(r, count)
		for k := range l {
			l[k].Train = one(200, 2+n.upTo(30/r.Rays+2))
		}
		length := wantLength(r, l, round)
		for time := range min(400, 3*length) {
			entry, ray := mustWhere(t, r, l, round, time)
			if a, b := wantWhere(r, l, round, time); a != entry || b != ray {
				t.Fatalf("Where(%v, %v, %v, %d): %d, ray %d, want %d, ray %d", r, l, round, time, entry, ray, a, b)
			}
			far := time + (maxTime-time)/length*length
			if a, b := mustWhere(t, r, l, round, far); a != entry || b != ray {
				t.Fatalf("Where(%v, %v, %v, %d): %d, ray %d, but at %d: %d, ray %d", r, l, round, time, entry, ray, far, a, b)
			}
			if ray < 0 {
				moving++
			}
		}
	}
	if moving < 500 {
		t.Errorf("the beam moves only %d times", moving)
	}
}

// P6.5: the times that are allowed, and the errors of Judge ahead of others.
func TestWhereErrors(t *testing.T) {
	checkLimits(t, "time", 0, maxTime, func(n int) api.Errno {
		entry, ray, e := plan.Where(radar(), both(), []int{0, 1}, n)
		if e != api.OK && (entry != 0 || ray != 0) {
			t.Errorf("Where at %d: %d, ray %d with the error %d", n, entry, ray, e)
		}
		return e
	})
	for what, x := range map[string]struct {
		round []int
		want  api.Errno
	}{
		"no round":        {nil, api.ErrRange},
		"a long round":    {make([]int, 13), api.ErrRange},
		"a job of none":   {[]int{0, 1, 2}, api.ErrNone},
		"a job left out":  {[]int{1, 1}, api.ErrLost},
		"a time too late": {[]int{0, 1}, api.ErrRange},
	} {
		entry, ray, e := plan.Where(radar(), both(), x.round, maxTime+1)
		if e != x.want || entry != 0 || ray != 0 {
			t.Errorf("%s: %d, ray %d, error %d, want %d", what, entry, ray, e, x.want)
		}
	}
	// A round need not be kept to be done.
	if entry, ray := mustWhere(t, radar(), three(), []int{0, 1, 2}, 75); entry != 2 || ray != -1 {
		t.Errorf("Where of a round that is not kept: %d, ray %d", entry, ray)
	}
}

// wantWith does one more job behind an element of the third of six rounds, and
// returns when it begins, and how long each other job has to wait.
func wantWith(r plan.Radar, l []plan.Job, round []int, extra plan.Job, element int) (begin int, waits []int) {
	numbers := slices.Insert(slices.Repeat(round, 6), 2*len(round)+element+1, len(l))
	begins := wantBegins(r, named(append(slices.Clone(l), extra), numbers))
	for k := range l {
		waits = append(waits, slices.Max(wantGaps(numbers, begins, k)))
	}
	return begins[2*len(round)+element+1] - 2*wantLength(r, l, round), waits
}

// wantInsert tries all places.
func wantInsert(r plan.Radar, l []plan.Job, round []int, extra plan.Job, by int) (int, api.Errno) {
	for element := range round {
		begin, waits := wantWith(r, l, round, extra, element)
		isFine := begin <= by
		for k, j := range l {
			isFine = isFine && waits[k] <= j.Every
		}
		if isFine {
			return element, api.OK
		}
	}
	return 0, api.ErrBusy
}

// sweep returns one more job, which takes so many milliseconds for each ray.
func sweep(tilt, count int) plan.Job { return job(tilt, count, 1) }

// P6.5: the examples; a place behind each element, behind the last one too, at
// just the time that is allowed and one earlier; and gaps that become just too
// great.
func TestInsertExamples(t *testing.T) {
	short := plan.Job{Tilt: 1, Train: one(500, 2), Width: 10, Every: 60}
	once := jobs(0, 5, 14, 0, 5, 14)
	front, middle, back := jobs(0, 3, 90, 0, 5, 8), jobs(0, 2, 9, 0, 6, 90, 0, 2, 90), jobs(0, 3, 8, 0, 5, 90)
	way := jobs(0, 2, 30, 4, 2, 30)
	const busy = -1
	for what, x := range map[string]struct {
		r     plan.Radar
		l     []plan.Job
		round []int
		extra plan.Job
		by    int
		want  int
	}{
		"the example":                               {radar(), both(), []int{0, 1}, short, 21, 0},
		"the example, too early":                    {radar(), both(), []int{0, 1}, short, 20, busy},
		"the example, any time":                     {radar(), both(), []int{0, 1}, short, maxTime, 0},
		"the example, no time":                      {radar(), both(), []int{0, 1}, short, 0, busy},
		"one of the jobs":                           {radar(), both(), []int{0, 1}, jobA(), 100, busy},
		"both gaps just great enough":               {lone(0), once, []int{0, 1}, sweep(0, 4), 5, 0},
		"both gaps just great enough, too early":    {lone(0), once, []int{0, 1}, sweep(0, 4), 4, busy},
		"both gaps just too great":                  {lone(0), once, []int{0, 1}, sweep(0, 5), maxTime, busy},
		"the first gap just too great":              {lone(0), jobs(0, 5, 13, 0, 5, 14), []int{0, 1}, sweep(0, 4), maxTime, busy},
		"the second gap just too great":             {lone(0), jobs(0, 5, 14, 0, 5, 13), []int{0, 1}, sweep(0, 4), maxTime, busy},
		"behind the only element":                   {lone(1), jobs(3, 5, 15), []int{0}, sweep(0, 4), 8, 0},
		"behind the only element, too early":        {lone(1), jobs(3, 5, 15), []int{0}, sweep(0, 4), 7, busy},
		"behind the only element, too much":         {lone(1), jobs(3, 5, 14), []int{0}, sweep(0, 4), 8, busy},
		"behind the first element of one job":       {lone(0), jobs(0, 5, 9), []int{0, 0, 0}, sweep(0, 4), 99, 0},
		"behind the middle element, by the gaps":    {lone(0), front, []int{0, 1, 1}, sweep(0, 3), 8, 1},
		"behind the middle element, too early":      {lone(0), front, []int{0, 1, 1}, sweep(0, 3), 7, busy},
		"behind the middle element, too much":       {lone(0), front, []int{0, 1, 1}, sweep(0, 4), 99, busy},
		"behind the third element, by the gaps":     {lone(0), middle, []int{0, 1, 0, 2}, sweep(0, 5), 10, 2},
		"behind the third element, too early":       {lone(0), middle, []int{0, 1, 0, 2}, sweep(0, 5), 9, busy},
		"behind the third element, too much":        {lone(0), middle, []int{0, 1, 0, 2}, sweep(0, 6), 99, busy},
		"behind the last element":                   {lone(0), back, []int{0, 1, 0}, sweep(0, 5), 11, 2},
		"behind the last element, too early":        {lone(0), back, []int{0, 1, 0}, sweep(0, 5), 10, busy},
		"behind the last element, too much":         {lone(0), back, []int{0, 1, 0}, sweep(0, 6), 99, busy},
		"on the way":                                {lone(1), way, []int{0, 1}, sweep(1, 18), 3, 0},
		"on the way, too early":                     {lone(1), way, []int{0, 1}, sweep(1, 18), 2, busy},
		"on the way, too long":                      {lone(1), way, []int{0, 1}, sweep(1, 19), 99, busy},
		"beyond the way, there and back":            {lone(1), way, []int{0, 1}, sweep(7, 12), 9, 0},
		"beyond the way, too long":                  {lone(1), way, []int{0, 1}, sweep(7, 13), 99, busy},
		"out of the way but behind the third one":   {lone(1), way, []int{0, 0, 1}, sweep(4, 16), 8, 1},
		"out of the way, too early":                 {lone(1), way, []int{0, 0, 1}, sweep(4, 16), 7, busy},
		"in the way of the first one, not the next": {lone(1), jobs(4, 2, 30, 0, 2, 30), []int{1, 0, 0}, sweep(0, 16), 99, 0},
	} {
		want, f := wantInsert(x.r, x.l, x.round, x.extra, x.by)
		if f == api.ErrBusy {
			want = busy
		}
		if want != x.want {
			t.Errorf("%s: the definition leads to %d, not to %d", what, want, x.want)
		}
		got, e := plan.Insert(x.r, x.l, x.round, x.extra, x.by)
		if x.want == busy && (got != 0 || e != api.ErrBusy) || x.want != busy && (got != x.want || e != api.OK) {
			t.Errorf("%s: %d %d, want %d", what, got, e, x.want)
		}
	}
}

// P6.5, P6.10: one more sweep somewhere among rounds; with it no job waits for
// too long, and it begins early enough.
func TestInsert(t *testing.T) {
	n := &noise{state: 32}
	places := map[int]int{}
	for range 5000 {
		r, count := n.radar(), 1+n.upTo(n.of(1, 2, 5))
		round := n.round(count, n.of(6, 12))
		l := n.suited(r, n.jobs(r, count), round, n.of(3, 15))
		extra := sweep(n.upTo(8), 2+n.upTo(3))
		if n.upTo(1) == 0 { // just so that there is a place behind some element, or just not
			_, waits := wantWith(r, l, round, extra, n.of(len(round)-1, n.upTo(len(round)-1)))
			for k := range l {
				l[k].Every = waits[k]
			}
			if k := n.upTo(count - 1); n.upTo(2) == 0 && wantSlacks(r, l, round)[k] > 0 {
				l[k].Every--
			}
		}
		by := n.of(maxTime, n.upTo(wantLength(r, l, round)))
		got, e := plan.Insert(r, l, round, extra, by)
		want, f := wantInsert(r, l, round, extra, by)
		if got != want || e != f {
			t.Fatalf("Insert(%v, %v, %v, %v, %d): %d %d, want %d %d", r, l, round, extra, by, got, e, want, f)
		}
		switch {
		case e != api.OK:
			places[-1]++
		case got == len(round)-1:
			places[99]++
		default:
			places[min(got, 3)]++
		}
	}
	for _, k := range []int{-1, 0, 1, 2, 3, 99} {
		if places[k] < 50 {
			t.Errorf("the place %d is found too seldom: %v", k, places)
		}
	}
}

// P6.5: one more sweep at just the time at which it can begin, and not a
// millisecond earlier.
func TestInsertInTime(t *testing.T) {
	n := &noise{state: 33}
	for range 1000 {
		r, count := n.radar(), 1+n.upTo(5)
		round := n.round(count, 12)
		l := n.suited(r, n.jobs(r, count), round, n.of(20, 60))
		extra := n.jobs(r, 1)[0]
		element, e := plan.Insert(r, l, round, extra, maxTime)
		if e != api.OK {
			continue
		}
		done := append(named(l, round[:element+1]), extra)
		begin := wantBegins(r, done)[element+1]
		if got, e := plan.Insert(r, l, round, extra, begin); got != element || e != api.OK {
			t.Fatalf("Insert(%v, %v, %v, %v, %d): %d %d, want %d", r, l, round, extra, begin, got, e, element)
		}
		// Whatever is behind it begins later.
		if got, e := plan.Insert(r, l, round, extra, begin-1); got != 0 || e != api.ErrBusy {
			t.Fatalf("Insert(%v, %v, %v, %v, %d): %d %d, want ErrBusy", r, l, round, extra, begin-1, got, e)
		}
	}
}

// P6.5: the times that are allowed, each number of the sweep, and which error
// comes first.
func TestInsertErrors(t *testing.T) {
	insert := func(r plan.Radar, round []int, extra plan.Job, by int) api.Errno {
		got, e := plan.Insert(r, both(), round, extra, by)
		if e != api.OK && got != 0 {
			t.Errorf("Insert of %v by %d: %d with the error %d", extra, by, got, e)
		}
		if e == api.ErrBusy {
			return api.OK // only what is valid can be too much
		}
		return e
	}
	checkLimits(t, "by", 0, maxTime, func(n int) api.Errno { return insert(radar(), []int{0, 1}, sweep(1, 2), n) })
	checkLimits(t, "Every", 1, 100000000, func(n int) api.Errno { return insert(radar(), []int{0, 1}, job(1, 2, n), 9) })
	checkLimits(t, "Tilt", 0, 256, func(n int) api.Errno { return insert(radar(), []int{0, 1}, sweep(n, 2), 9) })
	far, odd := badJobs()
	blind := radar()
	blind.Rays = 361
	for what, x := range map[string]struct {
		r     plan.Radar
		round []int
		extra plan.Job
		by    int
		want  api.Errno
	}{
		"all wrong":                          {blind, nil, odd, -1, api.ErrRange},
		"all but the radar wrong":            {radar(), nil, odd, -1, api.ErrRange},
		"a job of none ahead of the sweep":   {radar(), []int{0, 1, 2}, odd, -1, api.ErrNone},
		"a job left out":                     {radar(), []int{0}, odd, -1, api.ErrLost},
		"the sweep ahead of the round":       {radar(), []int{0, 0, 1}, odd, -1, api.ErrArg},
		"a number of the sweep":              {radar(), []int{0, 0, 1}, far, -1, api.ErrRange},
		"a round that is not kept":           {radar(), []int{0, 0, 1}, sweep(1, 2), -1, api.ErrState},
		"the sweep ahead of the time":        {radar(), []int{0, 1}, odd, -1, api.ErrArg},
		"the time":                           {radar(), []int{0, 1}, sweep(1, 2), -1, api.ErrRange},
		"the time ahead of what is too much": {radar(), []int{0, 1}, jobA(), maxTime + 1, api.ErrRange},
		"too much":                           {radar(), []int{0, 1}, jobA(), maxTime, api.ErrBusy},
	} {
		got, e := plan.Insert(x.r, both(), x.round, x.extra, x.by)
		if e != x.want || got != 0 {
			t.Errorf("%s: %d, error %d, want %d", what, got, e, x.want)
		}
	}
	l := slices.Repeat([]plan.Job{job(0, 2, 90)}, 6)
	if got, e := plan.Insert(lone(0), l, []int{0, 1, 2, 3, 4, 5}, sweep(0, 2), 2); got != 0 || e != api.OK {
		t.Errorf("one more than as many jobs as there may be: %d %d", got, e)
	}
}
