package plan

import (
	"slices"

	"radome/api"
)

// refusal ends the reading of cuts that are no proof.
type refusal struct{}

// reader goes through the cuts of a proof, in their order.
type reader struct {
	load load
	rest []Cut
}

// Refute returns a proof that no round is kept, with sequences up to a greatest
// length: ErrRange if there is no such length, ErrNone if there is a sequence
// of this length without a job that is late, and ErrMany if there are too many
// cuts.
func Refute(r Radar, l []Job, most int) ([]Cut, api.Errno) {
	if e := checkMost(r, l, most); e != api.OK {
		return nil, e
	}
	var proof []Cut
	isLong := false
	for p, late := range loadOf(r, l).beginnings(path{}, most) {
		if late == nobody {
			return nil, api.ErrNone
		}
		if len(proof) == MaxCuts {
			isLong = true // a sequence without a late job can still follow
			continue
		}
		proof = append(proof, Cut{Begin: slices.Clone(p.jobs[:p.count]), Late: late})
	}
	if isLong {
		return nil, api.ErrMany
	}
	return proof, api.OK
}

// Verify returns ErrMany if there are too many cuts, and ErrProof if they are
// no proof, or one with sequences that are too long.
func Verify(r Radar, l []Job, proof []Cut) (e api.Errno) {
	if e := Check(r, l); e != api.OK {
		return e
	}
	if len(proof) > MaxCuts {
		return api.ErrMany
	}
	defer func() {
		if x := recover(); x != nil {
			if _, gaveUp := x.(refusal); !gaveUp { // no matter of the proof
				panic(x)
			}
			e = api.ErrProof
		}
	}()
	c := reader{load: loadOf(r, l), rest: proof}
	c.goOn(path{})
	if len(c.rest) > 0 {
		c.giveUp()
	}
	return api.OK
}

// giveUp ends the reading at a cut that cannot stand where it does.
func (c *reader) giveUp() { panic(refusal{}) }

// goOn goes through the cuts of all sequences that are longer than a path, and
// begin with it.
func (c *reader) goOn(p path) {
	if p.count == MaxBegin {
		c.giveUp()
	}
	for job := range c.load.tasks {
		c.take(c.load.longer(p, job))
	}
}

// take goes through the cuts of all sequences that begin with a path: one cut
// that is this path, or those of longer ones.
func (c *reader) take(p path) {
	if len(c.rest) == 0 {
		c.giveUp()
	}
	next := c.rest[0]
	if len(next.Begin) < p.count || !slices.Equal(next.Begin[:p.count], p.jobs[:p.count]) {
		c.giveUp()
	}
	if len(next.Begin) > p.count {
		c.goOn(p)
		return
	}
	if !isIn(next.Late, 0, len(c.load.tasks)-1) || !c.load.isLate(&p, next.Late) {
		c.giveUp()
	}
	c.rest = c.rest[1:]
}
