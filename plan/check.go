package plan

import (
	"radome/api"
	"radome/pulse"
)

// Check returns ErrRange if a radar is not as stated, ErrMany if there are no
// jobs, or too many, and the error of the first job with one.
func Check(r Radar, l []Job) api.Errno {
	if !isIn(r.Rays, 1, MaxRays) || !isIn(r.Turn, 0, MaxTurn) || !isIn(r.Move, 0, MaxMove) || !isIn(r.Duty, 1, 1000) {
		return api.ErrRange
	}
	if !isIn(len(l), 1, MaxJobs) {
		return api.ErrMany
	}
	for _, j := range l {
		if !isIn(j.Tilt, 0, api.MaxTilt) || !isIn(j.Width, 1, MaxWidth) || !isIn(j.Every, 1, MaxEvery) {
			return api.ErrRange
		}
		if e := pulse.CheckTrain(j.Train); e != api.OK {
			return e
		}
	}
	return api.OK
}

// Time returns how long a job takes, or the error of Check for it alone.
func Time(r Radar, j Job) (int, api.Errno) {
	if e := Check(r, []Job{j}); e != api.OK {
		return 0, e
	}
	return timeOf(r, j), api.OK
}

// timeOf returns how long a valid job takes.
func timeOf(r Radar, j Job) int {
	cooling := up(100*j.Train.Count*j.Width, r.Duty)
	ray := max(pulses(j.Train), cooling)
	return max(r.Turn, up(r.Rays*ray, 1000))
}

// pulses returns the time of the pulses of a valid train, in microseconds.
func pulses(t pulse.Train) int {
	kinds := [...]func() int{
		pulse.One:   func() int { return t.Count * t.First },
		pulse.Two:   func() int { return t.Count / 2 * (t.First + t.Second) },
		pulse.Turns: func() int { return up(t.Count, 2)*t.First + t.Count/2*t.Second },
	}
	return kinds[t.Kind]()
}

// up returns a quotient rounded up, where / rounds down: no number is below 0.
func up(num, den int) int { return (num + den - 1) / den }

func isIn(n, least, most int) bool { return least <= n && n <= most }
