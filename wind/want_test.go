package wind_test

import (
	"math/big"

	"radome/api"
	"radome/wind"
)

// half is what lies on one side of a straight line: u x + v y is at most a number.
type half struct{ x, y, most int }

// point is the wind (u / w, v / w); w is above 0.
type point struct{ u, v, w int }

// below is a quotient rounded down, and above is one rounded up.
func below(a, b int) int {
	q := a / b
	for q*b > a {
		q--
	}
	return q
}

func above(a, b int) int {
	q := a / b
	for q*b < a {
		q++
	}
	return q
}

// halves are all winds' borders, and those of sights whose spans become wider.
func halves(l []wind.Sight, wider int) []half {
	all := []half{{1, 0, maxWind}, {-1, 0, maxWind}, {0, 1, maxWind}, {0, -1, maxWind}}
	for _, x := range l {
		all = append(all, half{x.X, x.Y, (x.Speed.Hi + wider) * x.L}, half{-x.X, -x.Y, -(x.Speed.Lo - wider) * x.L})
	}
	return all
}

// has reports whether a point is on this side.
func (h half) has(p point) bool {
	const small = 1 << 30
	if -small < h.most && h.most < small && p.w < small && max(h.x, -h.x, h.y, -h.y) < 1<<10 && max(p.u, -p.u, p.v, -p.v) < 1<<50 {
		return h.x*p.u+h.y*p.v <= h.most*p.w
	}
	sum := new(big.Int).Mul(big.NewInt(int64(h.x)), big.NewInt(int64(p.u)))
	sum.Add(sum, new(big.Int).Mul(big.NewInt(int64(h.y)), big.NewInt(int64(p.v))))
	return sum.Cmp(new(big.Int).Mul(big.NewInt(int64(h.most)), big.NewInt(int64(p.w)))) <= 0
}

// wantCorners returns all points in which two borders of what agrees with sights
// meet, and that agree with them. There are some if any wind agrees, as all
// winds are between borders; and the ends of a reach are two of them.
func wantCorners(l []wind.Sight, wider int) []point {
	all := halves(l, wider)
	var corners []point
	for i, a := range all {
		for _, b := range all[:i] {
			p := point{a.most*b.y - b.most*a.y, a.x*b.most - b.x*a.most, a.x*b.y - b.x*a.y}
			if p.w < 0 {
				p = point{-p.u, -p.v, -p.w}
			}
			if p.w > 0 && isInAll(all, p) {
				corners = append(corners, p)
			}
		}
	}
	return corners
}

func isInAll(l []half, p point) bool {
	for _, h := range l {
		if !h.has(p) {
			return false
		}
	}
	return true
}

func wantAgree(l []wind.Sight) bool { return len(wantCorners(l, 0)) > 0 }

// wantReach returns the reach of sights that agree.
func wantReach(l []wind.Sight, d direction) api.Span {
	var least, most *big.Rat
	for _, p := range wantCorners(l, 0) {
		sum := new(big.Int).Mul(big.NewInt(int64(d.x)), big.NewInt(int64(p.u)))
		sum.Add(sum, new(big.Int).Mul(big.NewInt(int64(d.y)), big.NewInt(int64(p.v))))
		n := new(big.Rat).SetFrac(sum, new(big.Int).Mul(big.NewInt(int64(p.w)), big.NewInt(int64(d.length))))
		if least == nil || n.Cmp(least) < 0 {
			least = n
		}
		if most == nil || n.Cmp(most) > 0 {
			most = n
		}
	}
	// Div rounds down, as the denominator is above 0.
	lo := new(big.Int).Div(least.Num(), least.Denom())
	hi := new(big.Int).Div(new(big.Int).Neg(most.Num()), most.Denom())
	return span(int(lo.Int64()), -int(hi.Int64()))
}

// wantStrain returns the least number of those that the sights agree with.
func wantStrain(l []wind.Sight) int {
	lo, hi := -1, maxAlong // with hi they agree, with lo they do not
	for hi-lo > 1 {
		if middle := (lo + hi) / 2; len(wantCorners(l, middle)) > 0 {
			hi = middle
		} else {
			lo = middle
		}
	}
	return hi
}

// wantSets returns all sets of at most three of n numbers, in their order.
func wantSets(n int) [][]int {
	sets := [][]int{{}}
	for a := range n {
		sets = append(sets, []int{a})
	}
	for a := range n {
		for b := a + 1; b < n; b++ {
			sets = append(sets, []int{a, b})
		}
	}
	for a := range n {
		for b := a + 1; b < n; b++ {
			for c := b + 1; c < n; c++ {
				sets = append(sets, []int{a, b, c})
			}
		}
	}
	return sets
}

// split returns the sights of a set, and all others.
func split(l []wind.Sight, set []int) (in, out []wind.Sight) {
	is := map[int]bool{}
	for _, n := range set {
		is[n] = true
	}
	for n, x := range l {
		if is[n] {
			in = append(in, x)
		} else {
			out = append(out, x)
		}
	}
	return in, out
}

// wantBlame returns the first set of sights that are in conflict.
func wantBlame(l []wind.Sight) ([]int, api.Errno) {
	for _, set := range wantSets(len(l)) {
		if in, _ := split(l, set); !wantAgree(in) {
			return set, api.OK
		}
	}
	return nil, api.ErrNone
}

// wantWithout returns the first set of sights without which the others agree.
func wantWithout(l []wind.Sight, most int) ([]int, api.Errno) {
	for _, set := range wantSets(len(l)) {
		if _, out := split(l, set); len(set) <= most && wantAgree(out) {
			return set, api.OK
		}
	}
	return nil, api.ErrConflict
}

// wantFront returns the first front.
func wantFront(l []wind.Sight) (from, to int, e api.Errno) {
	if wantAgree(l) {
		return 0, 0, api.ErrNone
	}
	for from := range l {
		for to := from + 1; to <= len(l); to++ {
			var set []int
			for n := from; n < to; n++ {
				set = append(set, n)
			}
			if in, out := split(l, set); wantAgree(in) && wantAgree(out) {
				return from, to, api.OK
			}
		}
	}
	return 0, 0, api.ErrConflict
}
