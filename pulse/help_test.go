package pulse_test

import (
	"math"
	"math/big"
	"testing"

	"radome/api"
	"radome/pulse"
)

// The functions named want.. follow the definitions of the chapter word by
// word, with rational numbers, so that they share nothing with the package.

func one() pulse.Train {
	return pulse.Train{Lambda: 100000, Kind: pulse.One, First: 1000, Count: 4}
}

func two(count int) pulse.Train {
	return pulse.Train{Lambda: 53321, Kind: pulse.Two, First: 700, Second: 1111, Count: count}
}

func turns(count int) pulse.Train {
	return pulse.Train{Lambda: 1000000, Kind: pulse.Turns, First: 200, Second: 5000, Count: count}
}

// trains are valid ones of each kind, with the least and the greatest counts.
func trains() []pulse.Train {
	l := []pulse.Train{one(), two(4), two(6), two(10), two(64), turns(3), turns(4), turns(9), turns(64)}
	for _, count := range []int{2, 3, 9, 64} {
		t := one()
		t.Lambda, t.First, t.Count = 10000, 5000, count
		l = append(l, t)
	}
	return l
}

// exact is a receiver that knows everything.
func exact() pulse.Receiver { return pulse.Receiver{} }

func span(lo, hi int) api.Span { return api.Span{Lo: lo, Hi: hi} }

func pt(n int) api.Span { return span(n, n) }

// samples returns those that are written as in the chapter's examples.
func samples(l ...[4]int) []pulse.Sample {
	var all []pulse.Sample
	for _, x := range l {
		all = append(all, pulse.Sample{H: x[0], P: x[1], V: x[2], Q: x[3]})
	}
	return all
}

// phased returns samples of the same magnitudes, with these phases in both
// channels.
func phased(h, v int, phases ...int) []pulse.Sample {
	var all []pulse.Sample
	for _, p := range phases {
		all = append(all, pulse.Sample{H: h, P: mod(p), V: v, Q: mod(p)})
	}
	return all
}

// extremes are numbers that no argument may be spoiled by.
func extremes() []int {
	return []int{math.MinInt, math.MinInt + 1, -1 << 32, -1, 0, 1, 2, 3, 1000, 1 << 32, math.MaxInt - 1, math.MaxInt}
}

// mod is n modulo a turn.
func mod(n int) int {
	for n < 0 {
		n += 65536
	}
	return n % 65536
}

func bigFloor(num, den *big.Int) int {
	r := new(big.Rat).SetFrac(num, den)
	return int(new(big.Int).Div(r.Num(), r.Denom()).Int64())
}

func bigCeil(num, den *big.Int) int { return -bigFloor(new(big.Int).Neg(num), den) }

func integer(n int) *big.Int { return big.NewInt(int64(n)) }

func floor(num, den int) int { return bigFloor(integer(num), integer(den)) }

func ceil(num, den int) int { return bigCeil(integer(num), integer(den)) }

// product returns the product of some numbers.
func product(l ...int) *big.Int {
	p := integer(1)
	for _, n := range l {
		p.Mul(p, integer(n))
	}
	return p
}

// wantArc tries each of the numbers as the base.
func wantArc(l []int) (base, width int) {
	width = math.MaxInt
	for _, b := range l {
		w := 0
		for _, d := range l {
			w = max(w, mod(d-b))
		}
		if w < width || w == width && b < base {
			base, width = b, w
		}
	}
	if len(l) == 0 {
		return 0, 0
	}
	return base, width
}

// wantSteps returns the steps of First, and those of Second.
func wantSteps(t pulse.Train, l []pulse.Sample) (first, second []int) {
	step := func(i int) int { return mod(l[i+1].P - l[i].P) }
	switch t.Kind {
	case pulse.One:
		for i := 0; i+1 < len(l); i++ {
			first = append(first, step(i))
		}
	case pulse.Two:
		for i := 0; i+1 < len(l)/2; i++ {
			first = append(first, step(i))
			second = append(second, step(len(l)/2+i))
		}
	case pulse.Turns:
		for i := 0; i+1 < len(l); i += 2 {
			first = append(first, step(i))
		}
		for i := 1; i+1 < len(l); i += 2 {
			second = append(second, step(i))
		}
	}
	return first, second
}

// wantMean returns the span of a mean, with c as the chapter has it.
func wantMean(l []int, c, phase int) api.Span {
	if len(l) == 0 {
		return api.Span{}
	}
	base, _ := wantArc(l)
	s, m := 0, len(l)
	for _, d := range l {
		s += base + mod(d-base)
	}
	x := span(floor(s-2*c*phase, m), ceil(s+2*c*phase, m))
	for x.Lo < -32768 {
		x = span(x.Lo+65536, x.Hi+65536)
	}
	for x.Lo > 32767 {
		x = span(x.Lo-65536, x.Hi-65536)
	}
	return x
}

// sums are those of one end of all magnitudes.
type sums struct{ hh, vv, hv int }

func wantSums(l []pulse.Sample, err int) sums {
	var s sums
	for _, x := range l {
		h, v := max(0, x.H+err), max(0, x.V+err)
		s = sums{s.hh + h*h, s.vv + v*v, s.hv + h*v}
	}
	return s
}

func wantMatch(l, u sums) api.Span {
	match := span(0, 1000)
	if u.hh*u.vv > 0 {
		match.Lo = bigFloor(product(1000, l.hv, l.hv), product(u.hh, u.vv))
	}
	if l.hh*l.vv > 0 {
		match.Hi = min(1000, bigCeil(product(1000, u.hv, u.hv), product(l.hh, l.vv)))
	}
	return match
}

func wantTogether(l []int, phase int) bool {
	_, width := wantArc(l)
	return width+4*phase < 32768
}

// wantEcho is the echo of samples, as the chapter defines it.
func wantEcho(t pulse.Train, r pulse.Receiver, l []pulse.Sample) api.Echo {
	low, high, n := wantSums(l, -r.Level), wantSums(l, r.Level), len(l)
	power := span(max(0, floor(low.hh, n)-r.Noise.Hi), max(0, ceil(high.hh, n)-r.Noise.Lo))
	w := span(max(0, floor(low.vv, n)-r.Noise.Hi), max(0, ceil(high.vv, n)-r.Noise.Lo))
	if power.Lo == 0 {
		return api.Echo{Kind: api.Quiet, Power: power}
	}
	x := api.Echo{Kind: api.Mixed, Power: power, Match: wantMatch(low, high)}
	x.Ratio = span(min(1000000, floor(1000*w.Lo, power.Hi)), min(1000000, ceil(1000*w.Hi, power.Lo)))
	first, second := wantSteps(t, l)
	_, x.Spread = wantArc(first)
	if _, width := wantArc(second); width > x.Spread {
		x.Spread = width
	}
	var behind []int
	for _, s := range l {
		behind = append(behind, mod(s.Q-s.P))
	}
	if !wantTogether(first, r.Phase) || !wantTogether(second, r.Phase) || !wantTogether(behind, r.Phase) {
		return x
	}
	x.Kind = api.Clear
	c := [2]int{1, 1}
	if t.Kind == pulse.Turns {
		c = [2]int{len(first), len(second)}
	}
	x.Steps = [2]api.Span{wantMean(first, c[0], r.Phase), wantMean(second, c[1], r.Phase)}
	x.Turn = wantMean(behind, len(behind), r.Phase)
	return x
}

// noise yields numbers that look like random ones, and are always the same.
type noise struct{ state uint64 }

func (n *noise) upTo(most int) int {
	n.state = n.state*6364136223846793005 + 1442695040888963407
	return int(n.state>>33) % (most + 1)
}

func (n *noise) of(l ...int) int { return l[n.upTo(len(l)-1)] }

// about returns a number that differs from another one by at most an error.
func (n *noise) about(middle, err int) int { return middle - err + n.upTo(2*err) }

// inside returns a span within another one.
func (n *noise) inside(outer api.Span) api.Span {
	lo := outer.Lo + n.upTo(outer.Hi-outer.Lo)
	return span(lo, lo+n.upTo(outer.Hi-lo))
}

func (n *noise) train() pulse.Train {
	all := trains()
	return all[n.upTo(len(all)-1)]
}

func (n *noise) receiver() pulse.Receiver {
	return pulse.Receiver{
		Level: n.of(0, 1, 5, 30, 64),
		Phase: n.of(0, 1, 100, 3000, 4096),
		Noise: n.inside(span(0, n.of(0, 10, 300, 20000))),
	}
}

// samples returns valid ones for a train: loud or faint, and with steps that
// lie close together or apart, close to nothing or to half a turn.
func (n *noise) samples(t pulse.Train) []pulse.Sample {
	h, v := n.of(0, 1, 20, 300, 1000), n.of(0, 1, 20, 300, 1000)
	hErr, vErr := min(h, 1023-h, n.of(0, 3, 30)), min(v, 1023-v, n.of(0, 3, 30))
	step, err := n.of(0, 110, 32700, 32768, n.upTo(65535)), n.of(0, 1, 50, 4000, 9000, 32767)
	behind, behindErr := n.of(0, 5, 32768, n.upTo(65535)), n.of(0, 2, 1000, 16000)
	var l []pulse.Sample
	phase := n.upTo(65535)
	for range t.Count {
		x := pulse.Sample{H: n.about(h, hErr), P: mod(phase), V: n.about(v, vErr)}
		x.Q = mod(n.about(x.P+behind, behindErr))
		l = append(l, x)
		phase = n.about(phase+step, err)
	}
	return l
}

func isWithin(s, outer api.Span) bool {
	return s.Lo <= s.Hi && outer.Lo <= s.Lo && s.Hi <= outer.Hi
}

// isTurnedWithin reports whether a span lies within another one when it is
// moved by some whole turns.
func isTurnedWithin(s, outer api.Span) bool {
	for _, k := range []int{-131072, -65536, 0, 65536, 131072} {
		if isWithin(span(s.Lo+k, s.Hi+k), outer) {
			return true
		}
	}
	return false
}

func wantErr(t *testing.T, what string, got, want api.Errno) {
	t.Helper()
	if got != want {
		t.Errorf("%s: error %d, want %d", what, got, want)
	}
}
