package plan

import (
	"slices"

	"radome/api"
)

// Judge returns the slack of each job in a round: ErrRange if this is too short
// or too long, ErrNone if it has what is no job, and ErrLost if it does not
// have all jobs.
func Judge(r Radar, l []Job, round []int) ([]int, api.Errno) {
	w, p, e := follow(r, l, round)
	if e != api.OK {
		return nil, e
	}
	return w.slacks(&p), api.OK
}

// Best returns the first one of the shortest rounds that are kept: ErrRange if
// there is no such greatest length, and ErrNone if no round is kept.
func Best(r Radar, l []Job, most int) ([]int, api.Errno) {
	if e := checkMost(r, l, most); e != api.OK {
		return nil, e
	}
	w := loadOf(r, l)
	// No round is kept that begins with a sequence behind which a job is late,
	// and none that is too short for all jobs.
	for count := len(l); count <= most; count++ {
		for p, late := range w.beginnings(path{}, count) {
			if late == nobody && w.isKept(&p) {
				return slices.Clone(p.jobs[:p.count]), api.OK
			}
		}
	}
	return nil, api.ErrNone
}

// checkMost returns the error of Check, and ErrRange if sequences cannot be so
// long.
func checkMost(r Radar, l []Job, most int) api.Errno {
	if e := Check(r, l); e != api.OK {
		return e
	}
	if !isIn(most, 1, MaxBest) {
		return api.ErrRange
	}
	return api.OK
}

// follow returns what a radar has to do, and a round as a path; or the error of
// Judge.
func follow(r Radar, l []Job, round []int) (load, path, api.Errno) {
	if e := Check(r, l); e != api.OK {
		return load{}, path{}, e
	}
	if !isIn(len(round), 1, MaxRound) {
		return load{}, path{}, api.ErrRange
	}
	w, p := loadOf(r, l), path{}
	for _, job := range round {
		if !isIn(job, 0, len(l)-1) {
			return load{}, path{}, api.ErrNone
		}
		p = w.longer(p, job)
	}
	if !w.isWhole(&p) {
		return load{}, path{}, api.ErrLost
	}
	return w, p, api.OK
}

// isWhole reports whether all jobs are in a round.
func (w load) isWhole(round *path) bool {
	for job := range w.tasks {
		if !slices.Contains(round.jobs[:round.count], job) {
			return false
		}
	}
	return true
}

// isKept reports whether all jobs are in a round, and none of them waits for
// too long.
func (w load) isKept(round *path) bool {
	return w.isWhole(round) && slices.Min(w.slacks(round)) >= 0
}

// length returns the time from the beginning of a round to that of the next
// one.
func (w load) length(round *path) int { return w.ready(round, round.jobs[0]) }

// gap returns the time from the beginning of an element of a round to the next
// beginning of its job.
func (w load) gap(round *path, element int) int {
	job, begin := round.jobs[element], round.begins[element]
	for i := element + 1; i < round.count; i++ {
		if round.jobs[i] == job {
			return round.begins[i] - begin
		}
	}
	first := slices.Index(round.jobs[:round.count], job)
	return w.length(round) + round.begins[first] - begin
}

// slacks returns how much longer each job could wait in a round that has all of
// them.
func (w load) slacks(round *path) []int {
	var l []int
	for _, t := range w.tasks {
		l = append(l, t.every)
	}
	for element, job := range round.jobs[:round.count] {
		l[job] = min(l[job], w.tasks[job].every-w.gap(round, element))
	}
	return l
}
