package plan_test

import (
	"slices"
	"testing"

	"radome/api"
	"radome/plan"
	"radome/pulse"
)

// calls are calls of all functions, each of which reports whether it returned
// nothing, and its error.
func calls(r plan.Radar, l []plan.Job, round []int, proof []plan.Cut, extra plan.Job, n int) map[string]func() (bool, api.Errno) {
	return map[string]func() (bool, api.Errno){
		"Check": func() (bool, api.Errno) { return true, plan.Check(r, l) },
		"Time": func() (bool, api.Errno) {
			time, e := plan.Time(r, extra)
			return time == 0, e
		},
		"Judge": func() (bool, api.Errno) {
			slacks, e := plan.Judge(r, l, round)
			return len(slacks) == 0, e
		},
		"Best": func() (bool, api.Errno) {
			best, e := plan.Best(r, l, n)
			return len(best) == 0, e
		},
		"Refute": func() (bool, api.Errno) {
			cuts, e := plan.Refute(r, l, n)
			return len(cuts) == 0, e
		},
		"Verify": func() (bool, api.Errno) { return true, plan.Verify(r, l, proof) },
		"Where": func() (bool, api.Errno) {
			entry, ray, e := plan.Where(r, l, round, n)
			return entry == 0 && ray == 0, e
		},
		"Insert": func() (bool, api.Errno) {
			place, e := plan.Insert(r, l, round, extra, n)
			return place == 0, e
		},
	}
}

// P0: every function ends, without a panic, for all arguments; R2: with an
// error, all other results are zero values.
func TestAnyArguments(t *testing.T) {
	changes := []func(r *plan.Radar, j *plan.Job, round []int, c *plan.Cut, a, b int){
		func(r *plan.Radar, j *plan.Job, round []int, c *plan.Cut, a, b int) { r.Rays, r.Turn = a, b },
		func(r *plan.Radar, j *plan.Job, round []int, c *plan.Cut, a, b int) { r.Move, r.Duty = a, b },
		func(r *plan.Radar, j *plan.Job, round []int, c *plan.Cut, a, b int) { j.Tilt, j.Width = a, b },
		func(r *plan.Radar, j *plan.Job, round []int, c *plan.Cut, a, b int) { j.Every, j.Train.Lambda = a, b },
		func(r *plan.Radar, j *plan.Job, round []int, c *plan.Cut, a, b int) {
			j.Train.Kind, j.Train.Count = a, b
		},
		func(r *plan.Radar, j *plan.Job, round []int, c *plan.Cut, a, b int) {
			j.Train.First, j.Train.Second = a, b
		},
		func(r *plan.Radar, j *plan.Job, round []int, c *plan.Cut, a, b int) { round[0], round[2] = a, b },
		func(r *plan.Radar, j *plan.Job, round []int, c *plan.Cut, a, b int) { c.Late, c.Begin[0] = a, b },
	}
	for i, change := range changes {
		for _, a := range extremes() {
			for _, b := range extremes() {
				r, j, round, c := radar(), jobA(), []int{0, 1, 2}, cut(2, 0)
				change(&r, &j, round, &c, a, b)
				proof := append([]plan.Cut{c}, exampleProof()[1:]...)
				for _, l := range [][]plan.Job{three(), {jobA(), j}, {j}, nil} {
					for what, call := range calls(r, l, round, proof, j, b) {
						if zero, e := call(); e != api.OK && !zero {
							t.Fatalf("%s with the change %d, %d and %d returns more than the error %d", what, i, a, b, e)
						}
					}
				}
			}
		}
	}
}

// P0: as many jobs as there may be, as slow as they may be, with sequences as
// long as they may be.
func TestLarge(t *testing.T) {
	slow := plan.Radar{Rays: 360, Turn: 600000, Move: 10000, Duty: 1}
	var l []plan.Job
	for tilt := range 6 {
		j := plan.Job{Tilt: tilt * 51, Train: turns(4999, 5000, 64), Width: 1000, Every: 100000000}
		l = append(l, j)
	}
	if round, e := plan.Best(slow, l, 8); e != api.OK || !slices.Equal(round, []int{0, 1, 2, 3, 4, 5}) {
		t.Errorf("Best: %v %d", round, e)
	}
	if proof, e := plan.Refute(slow, l, 8); e != api.ErrNone || len(proof) > 0 {
		t.Errorf("Refute: %v %d", proof, e)
	}
	for k := range l {
		l[k].Every = 16000000 + k*700000
	}
	for most := 1; most <= 8; most++ {
		round, e := plan.Best(slow, l, most)
		proof, f := plan.Refute(slow, l, most)
		if e == api.OK || len(round) > 0 || f == api.OK && plan.Verify(slow, l, proof) != api.OK {
			t.Errorf("up to %d: %v %d, and %d cuts %d", most, round, e, len(proof), f)
		}
	}
	if round, e := plan.Best(lone(0), slices.Repeat(jobs(0, 2, 13), 6), 8); e != api.OK || len(round) != 6 {
		t.Errorf("Best of six that are alike: %v %d", round, e)
	}
}

// P0: proofs with very long sequences, all of them alike.
func TestLongProofs(t *testing.T) {
	long := plan.Cut{Begin: make([]int, 1000000), Late: 0}
	proof := slices.Repeat([]plan.Cut{long}, 5000)
	for count := 1; count <= 6; count++ {
		l := slices.Repeat(hasty()[:1], count)
		wantErr(t, "Verify", plan.Verify(radar(), l, proof), api.ErrProof)
	}
}

// R3: nil lists and empty ones are the same.
func TestEmptyLists(t *testing.T) {
	for _, round := range [][]int{nil, {}} {
		_, e := plan.Judge(radar(), both(), round)
		wantErr(t, "Judge of no round", e, api.ErrRange)
		_, _, e = plan.Where(radar(), both(), round, 0)
		wantErr(t, "Where of no round", e, api.ErrRange)
		_, e = plan.Insert(radar(), both(), round, jobA(), 0)
		wantErr(t, "Insert into no round", e, api.ErrRange)
		wantErr(t, "Verify of no sequence", plan.Verify(radar(), hasty(), []plan.Cut{{Begin: round}}), api.ErrProof)
	}
	for _, l := range [][]plan.Job{nil, {}} {
		_, e := plan.Best(radar(), l, 1)
		wantErr(t, "Best of no jobs", e, api.ErrMany)
	}
}

// R4: arguments stay as they are.
func TestNothingChanges(t *testing.T) {
	all := append(three(), jobA(), jobB())
	l, round, proof := all[:3], []int{0, 1, 2, 9}[:3], exampleProof()
	plan.Judge(radar(), l, round)
	plan.Best(radar(), l, 4)
	plan.Refute(radar(), l, 4)
	plan.Verify(radar(), l, proof)
	plan.Where(radar(), l, round, 77)
	plan.Insert(radar(), l, round, jobC(), 77)
	easy := append(both(), jobC())
	plan.Insert(radar(), easy[:2], []int{0, 1}, job(1, 2, 5), 77) // jobs behind the list stay, too
	if !slices.Equal(all, append(three(), jobA(), jobB())) || !slices.Equal(round, []int{0, 1, 2}) || !sameCuts(proof, exampleProof()) {
		t.Errorf("changed: %v, %v, %v", all, round, proof)
	}
	if !slices.Equal(easy, append(both(), jobC())) {
		t.Errorf("changed: %v", easy)
	}
}

// R4: results share no memory, neither with each other nor within one.
func TestNewMemory(t *testing.T) {
	slacks := mustJudge(t, radar(), both(), []int{0, 1})
	round, _ := plan.Best(radar(), both(), 3)
	clear(slacks)
	round[0], round[1] = 7, 7
	again, e := plan.Best(radar(), both(), 3)
	if got := mustJudge(t, radar(), both(), []int{0, 1}); !slices.Equal(got, []int{16, 6}) || !slices.Equal(again, []int{0, 1}) || e != api.OK {
		t.Errorf("again: %v, %v %d", got, again, e)
	}
	l := jobs(0, 2, 6, 0, 2, 4, 0, 2, 5)
	proof, e := plan.Refute(lone(0), l, 8)
	want, f := wantRefute(lone(0), l, 5)
	if e != api.OK || f != api.OK || len(proof) < 10 {
		t.Fatalf("Refute: %v %d, %v %d", proof, e, want, f)
	}
	for i := range proof {
		for k := range proof[i].Begin {
			proof[i].Begin[k] = 9
		}
		_ = append(proof[i].Begin, 9, 9, 9)
		if !sameCuts(proof[i+1:], want[i+1:]) {
			t.Fatalf("cuts behind %d share memory: %v", i, proof[i+1:])
		}
	}
}

// P6.1: a train of pulse's own kinds is what plan calls valid.
func TestTrainsOfPulse(t *testing.T) {
	for kind := -1; kind <= 4; kind++ {
		for _, second := range []int{0, 999, 1000, 1001, 5000, 5001} {
			for count := range 67 {
				train := pulse.Train{Lambda: 10000, Kind: kind, First: 1000, Second: second, Count: count}
				j := plan.Job{Train: train, Width: 1, Every: 1}
				time, e := plan.Time(lone(0), j)
				wantErr(t, "Time of any train", e, pulse.CheckTrain(train))
				if e == api.OK && time != wantTime(lone(0), j) {
					t.Errorf("Time of %v: %d", train, time)
				}
			}
		}
	}
}
