package pulse_test

import (
	"math"
	"slices"
	"testing"

	"radome/api"
	"radome/pulse"
)

// P2.3: the examples; one number and equal ones; arcs over the turn's end;
// and of several bases the least one.
func TestArc(t *testing.T) {
	for _, x := range []struct {
		l           []int
		base, width int
	}{
		{[]int{65000, 100, 200}, 65000, 736},
		{[]int{0, 32768}, 0, 32768},
		{[]int{32768, 0}, 0, 32768},
		{[]int{5, 5}, 5, 0},
		{[]int{0}, 0, 0},
		{[]int{65535}, 65535, 0},
		{[]int{65535, 65535, 65535}, 65535, 0},
		{[]int{65535, 0}, 65535, 1},
		{[]int{0, 1}, 0, 1},
		{[]int{0, 65535, 1}, 65535, 2},
		{[]int{32767, 0}, 0, 32767},
		{[]int{0, 32769}, 32769, 32767},
		{[]int{49152, 32768, 16384, 0}, 0, 49152},
		{[]int{40001, 7233, 7233}, 7233, 32768},
		{[]int{10, 65530, 30000, 10}, 65530, 30006},
	} {
		base, width, e := pulse.Arc(x.l)
		if base != x.base || width != x.width || e != api.OK {
			t.Errorf("Arc(%v): %d %d %d, want %d %d", x.l, base, width, e, x.base, x.width)
		}
	}
}

// P2.3: what is not valid.
func TestArcErrors(t *testing.T) {
	for _, x := range []struct {
		l    []int
		want api.Errno
	}{
		{nil, api.ErrEmpty}, {[]int{}, api.ErrEmpty},
		{[]int{-1}, api.ErrRange}, {[]int{65536}, api.ErrRange}, {[]int{1, 2, 65536}, api.ErrRange}, {[]int{-1, 2, 3}, api.ErrRange},
		{[]int{math.MinInt}, api.ErrRange}, {[]int{0, math.MaxInt}, api.ErrRange},
	} {
		if base, width, e := pulse.Arc(x.l); base != 0 || width != 0 || e != x.want {
			t.Errorf("Arc(%v): %d %d %d, want the error %d", x.l, base, width, e, x.want)
		}
	}
}

// parts returns some parts of a turn, spread over some width, often repeated.
func (n *noise) parts(count int) []int {
	start, width := n.upTo(65535), n.of(0, 1, 3, 1000, 32768, 65535)
	var l []int
	for range count {
		l = append(l, mod(start+n.upTo(width)))
	}
	return l
}

// isArc reports whether all numbers are in the arc with this base and width.
func isArc(l []int, base, width int) bool {
	for _, d := range l {
		if mod(d-base) > width {
			return false
		}
	}
	return true
}

// P2.3 and P2.9: no arc that begins anywhere, and is narrower, has all of the
// numbers, nor does one that begins at a lesser one of them.
func TestArcIsNarrowest(t *testing.T) {
	n := &noise{}
	for round := range 120 {
		l := n.parts(1 + round%7)
		base, width, e := pulse.Arc(l)
		if e != api.OK || !slices.Contains(l, base) || !isArc(l, base, width) {
			t.Fatalf("Arc(%v): %d %d %d", l, base, width, e)
		}
		if equal := slices.Min(l) == slices.Max(l); (width == 0) != equal || width >= api.MaxTurn {
			t.Fatalf("Arc(%v): the width %d", l, width)
		}
		for b := 0; width > 0 && b < api.MaxTurn; b++ {
			if isArc(l, b, width-1) {
				t.Fatalf("Arc(%v): %d, but from %d on all are within less", l, width, b)
			}
		}
		for _, b := range l {
			if b < base && isArc(l, b, width) {
				t.Fatalf("Arc(%v): the base %d, but %d is less", l, base, b)
			}
		}
	}
}

// P2.9: the order does not matter, nor how often a number comes; without one
// of the numbers, an arc does not become wider.
func TestArcOfFewer(t *testing.T) {
	n := &noise{state: 3}
	for round := range 2000 {
		l := n.parts(2 + round%9)
		base, width, _ := pulse.Arc(l)
		if wantBase, wantWidth := wantArc(l); base != wantBase || width != wantWidth {
			t.Fatalf("Arc(%v): %d %d, want %d %d", l, base, width, wantBase, wantWidth)
		}
		other := append(slices.Clone(l), l[n.upTo(len(l)-1)])
		for i := range other {
			j := n.upTo(i)
			other[i], other[j] = other[j], other[i]
		}
		if b, w, _ := pulse.Arc(other); b != base || w != width {
			t.Fatalf("Arc(%v): %d %d, but %d %d of %v", l, base, width, b, w, other)
		}
		i := n.upTo(len(l) - 1)
		if _, w, _ := pulse.Arc(slices.Delete(slices.Clone(l), i, i+1)); w > width {
			t.Fatalf("Arc(%v): %d, but %d without the number %d", l, width, w, i)
		}
	}
}
