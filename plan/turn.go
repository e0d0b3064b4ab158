package plan

import "radome/api"

// Where returns which element of a round a radar does at a time, or did last,
// and its ray there, or -1 if it is done: the errors of Judge, and ErrRange if
// there is no such time.
func Where(r Radar, l []Job, round []int, time int) (entry, ray int, e api.Errno) {
	w, p, e := follow(r, l, round)
	if e != api.OK {
		return 0, 0, e
	}
	if !isIn(time, 0, api.MaxTime) {
		return 0, 0, api.ErrRange
	}
	now := time % w.length(&p)
	entry = p.count - 1
	for p.begins[entry] > now {
		entry--
	}
	since, whole := now-p.begins[entry], w.tasks[p.jobs[entry]].time
	if since >= whole {
		return entry, -1, api.OK
	}
	return entry, since * r.Rays / whole, api.OK
}

// Insert returns the first element of a round behind which there is time for
// one more sweep, once, that begins early enough: the errors of Judge, the
// error of the sweep, ErrState if the round is not kept, ErrRange if it cannot
// begin by such a time, and ErrBusy if there is no time for it.
func Insert(r Radar, l []Job, round []int, extra Job, by int) (int, api.Errno) {
	w, p, e := follow(r, l, round)
	if e != api.OK {
		return 0, e
	}
	if e := Check(r, []Job{extra}); e != api.OK {
		return 0, e
	}
	if !w.isKept(&p) {
		return 0, api.ErrState
	}
	if !isIn(by, 0, api.MaxTime) {
		return 0, api.ErrRange
	}
	more := loadOf(r, append(l[:len(l):len(l)], extra))
	for element, job := range p.jobs[:p.count] {
		begin := p.begins[element] + more.tasks[job].time + more.moving(job, len(l))
		if begin <= by && w.bears(&p, element, more.delay(&p, element, len(l))) {
			return element, api.OK
		}
	}
	return 0, api.ErrBusy
}

// delay returns by how much all is later behind an element of a round if a job
// is done there.
func (w load) delay(round *path, element, job int) int {
	before, behind := round.jobs[element], round.jobs[(element+1)%round.count]
	return w.moving(before, job) + w.tasks[job].time + w.moving(job, behind) - w.moving(before, behind)
}

// bears reports whether no job waits for too long if all behind an element of a
// round is later: for each job, it is the gap that begins with its last element
// up to this one, or with its last one in the round before, that becomes
// greater.
func (w load) bears(round *path, element, delay int) bool {
	known := [MaxJobs]bool{}
	for back := range round.count {
		i := (element - back + round.count) % round.count
		job := round.jobs[i]
		if !known[job] && w.gap(round, i)+delay > w.tasks[job].every {
			return false
		}
		known[job] = true
	}
	return true
}
