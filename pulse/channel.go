package pulse

import "radome/api"

// pair has a sum for the first channel, and one for the second channel.
type pair [2]int

func (p pair) plus(q pair) pair { return pair{p[0] + q[0], p[1] + q[1]} }

func (p pair) squared() pair { return pair{p[0] * p[0], p[1] * p[1]} }

func (p pair) product() int { return p[0] * p[1] }

// powers returns what sums of squares leave above the noise.
func (p pair) powers(round rounding, count, noise int) pair {
	return pair{max(0, round(p[0], count)-noise), max(0, round(p[1], count)-noise)}
}

// heard is what the magnitudes of a train add up to.
type heard struct {
	squares  pair
	products int // of both channels
}

// add returns the sums over all samples, if each magnitude has an error.
func add(l []Sample, err int) heard {
	var h heard
	for _, x := range l {
		magnitudes := pair{max(0, x.H+err), max(0, x.V+err)}
		h.squares = h.squares.plus(magnitudes.squared())
		h.products += magnitudes.product()
	}
	return h
}

// match returns how alike both channels are, from the least and the greatest
// sums that they can have; silence leaves all of it open. Nothing wraps around:
// 1,000 times the square of the greatest sum, of 64 products of magnitudes up
// to 1,087, is below 2^63.
func match(least, most heard) api.Span {
	m := api.Span{Lo: 0, Hi: 1000}
	if loudest := most.squares.product(); loudest > 0 {
		m.Lo = down(1000*least.products*least.products, loudest)
	}
	if faintest := least.squares.product(); faintest > 0 {
		m.Hi = min(m.Hi, up(1000*most.products*most.products, faintest))
	}
	return m
}

// ratio returns the ratio of both powers, from the least ones, of which the
// first one is not 0, and the greatest ones.
func ratio(least, most pair) api.Span {
	return api.Span{
		Lo: min(MaxRatio, down(1000*least[1], most[0])),
		Hi: min(MaxRatio, up(1000*most[1], least[0])),
	}
}
