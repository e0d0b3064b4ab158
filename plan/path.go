package plan

import "iter"

// nobody stands for a job where there is none.
const nobody = -1

// task is what plans have to know of a job.
type task struct {
	tilt  int
	time  int
	every int
}

// load is all that a radar has to do: the tasks of its jobs.
type load struct {
	move  int // the time for each tilt by which the beam moves
	tasks []task
}

// path is a sequence of jobs, with the times at which they begin.
type path struct {
	count  int
	jobs   [MaxBegin]int
	begins [MaxBegin]int
}

// loadOf returns what a valid radar has to do.
func loadOf(r Radar, l []Job) load {
	w := load{move: r.Move}
	for _, j := range l {
		w.tasks = append(w.tasks, task{tilt: j.Tilt, time: timeOf(r, j), every: j.Every})
	}
	return w
}

// moving returns how long the beam moves from one job to another one.
func (w load) moving(from, to int) int {
	a, b := w.tasks[from].tilt, w.tasks[to].tilt
	return w.move * (max(a, b) - min(a, b))
}

// ready returns the time at which a job can begin behind a path.
func (w load) ready(p *path, job int) int {
	if p.count == 0 {
		return 0
	}
	last := p.count - 1
	before := p.jobs[last]
	return p.begins[last] + w.tasks[before].time + w.moving(before, job)
}

// longer returns a path with one more job.
func (w load) longer(p path, job int) path {
	begin := w.ready(&p, job)
	p.jobs[p.count], p.begins[p.count] = job, begin
	p.count++
	return p
}

// isLate reports whether a job is late behind a path of one or more jobs.
func (w load) isLate(p *path, job int) bool {
	t, begin := w.tasks[job], w.ready(p, job)
	for i := p.count - 1; i >= 0; i-- {
		if p.jobs[i] == job {
			return begin-p.begins[i] > t.every
		}
	}
	return begin+t.time+w.moving(job, p.jobs[0]) > t.every
}

// late returns the first job that is late behind a path, or nobody.
func (w load) late(p *path) int {
	for job := range w.tasks {
		if w.isLate(p, job) {
			return job
		}
	}
	return nobody
}

// beginnings yields what all sequences that are longer than a path, and begin
// with it, begin with: the shortest paths behind which a job is late, with the
// first such job, and those of the greatest length behind which, and behind no
// beginning of which, anybody is. They come job by job.
func (w load) beginnings(p path, most int) iter.Seq2[path, int] {
	return func(yield func(path, int) bool) {
		for job := range w.tasks {
			next := w.longer(p, job)
			late := w.late(&next)
			if late != nobody || next.count == most {
				if !yield(next, late) {
					return
				}
				continue
			}
			for end, late := range w.beginnings(next, most) {
				if !yield(end, late) {
					return
				}
			}
		}
	}
}
