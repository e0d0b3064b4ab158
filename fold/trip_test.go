package fold_test

import (
	"slices"
	"testing"

	"radome/api"
	"radome/fold"
	"radome/pulse"
)

// P3.4: the example, and windows of each time.
func TestWindow(t *testing.T) {
	for _, x := range []struct {
		t           pulse.Train
		which, step int
		want        int
	}{
		{single(), 0, 1000, 150},
		{single(), 0, 1, 150000},
		{single(), 0, 2000, 75},
		{single(), 0, 1001, 149},
		{single(), 0, 999, 150},
		{double(), 0, 1250, 120},
		{double(), 1, 1250, 150},
		{double(), 1, 1251, 149},
		{pulse.Train{Lambda: 10000, Kind: pulse.One, First: 200, Count: 2}, 0, 2000, 15},
	} {
		if n, e := fold.Window(x.t, x.which, x.step); n != x.want || e != api.OK {
			t.Errorf("Window(%v, %d, %d): %d %d, want %d", x.t, x.which, x.step, n, e, x.want)
		}
	}
}

// fits reports whether both lists fit a profile.
func fits(a, b []api.Span, profile []int) bool {
	for _, l := range [][]api.Span{a, b} {
		for i, x := range l {
			sum := 0
			for r, power := range profile {
				if power < 0 {
					return false
				}
				if r%len(l) == i {
					sum += power
				}
			}
			if sum < x.Lo || sum > x.Hi {
				return false
			}
		}
	}
	return true
}

// profiles calls back with each profile of powers up to a limit that fits.
func profiles(a, b []api.Span, most, greatest int, profile func(l []int)) {
	l := make([]int, most)
	var from func(gate int)
	from = func(gate int) {
		if gate == most {
			if fits(a, b, l) {
				profile(l)
			}
			return
		}
		for power := 0; power <= greatest; power++ {
			l[gate] = power
			from(gate + 1)
		}
	}
	from(0)
}

// sums returns what a train with a window of some gates brings back.
func sums(profile []int, window int) []api.Span {
	l := make([]api.Span, window)
	for r, power := range profile {
		l[r%window].Lo += power
		l[r%window].Hi += power
	}
	return l
}

// around returns spans that lie around others, within powers.
func (n *noise) around(l []api.Span, err int) []api.Span {
	var all []api.Span
	for _, x := range l {
		all = append(all, span(max(0, x.Lo-n.upTo(err)), min(1<<30, x.Hi+n.upTo(err))))
	}
	return all
}

// P3.5: the examples.
func TestTripExamples(t *testing.T) {
	a, b := spans(5, 5, 0, 0), spans(5, 5, 0, 0, 0, 0)
	if l := mustTrips(t, a, b, 6); !slices.Equal(l, spans(5, 5, 0, 0, 0, 0, 0, 0, 0, 0, 0, 0)) {
		t.Errorf("Trips of windows of 2 and 3 gates: %v", l)
	}
	both := spans(5, 5, 3, 3)
	if l := mustTrips(t, both, both, 4); !slices.Equal(l, spans(0, 5, 0, 3, 0, 5, 0, 3)) {
		t.Errorf("Trips of the same windows: %v", l)
	}
	l, e := fold.Profile(both, both, 4, 2, 4)
	if e != api.OK || len(l) != 4 || l[0] != 1 || l[2] != 4 || l[1] < 0 || l[3] < 0 || l[1]+l[3] != 3 {
		t.Errorf("Profile of the gate 2 with 4: %v %d", l, e)
	}
	if l, e := fold.Profile(both, both, 4, 2, 6); len(l) != 0 || e != api.ErrConflict {
		t.Errorf("Profile of the gate 2 with 6: %v %d", l, e)
	}
}

// P3.5: windows that divide each other, windows that do not, and such that are
// longer than the profile.
func TestTripWindows(t *testing.T) {
	for what, x := range map[string]struct {
		a, b []api.Span
		most int
		want []api.Span // nil if nothing fits
	}{
		"one window of one gate":           {spans(7, 9), spans(8, 10), 1, spans(8, 9)},
		"that contradict":                  {spans(7, 9), spans(10, 11), 1, nil},
		"that just touch":                  {spans(7, 9), spans(9, 11), 1, spans(9, 9)},
		"one gate, and two":                {spans(7, 7), spans(2, 4, 0, 9), 2, spans(2, 4, 3, 5)},
		"one gate, and two, with more":     {spans(7, 7), spans(2, 4, 0, 9), 3, spans(0, 4, 3, 5, 0, 4)},
		"two gates, and four":              {spans(5, 5, 3, 3), spans(1, 2, 0, 3, 0, 9, 1, 9), 4, spans(1, 2, 0, 2, 3, 4, 1, 3)},
		"two gates, and four, that do not": {spans(5, 5, 3, 3), spans(1, 2, 0, 3, 0, 2, 1, 9), 4, nil},
		"longer than the profile":          {spans(1, 1, 2, 2, 0, 9), spans(0, 9, 0, 9, 0, 9, 0, 9), 2, spans(1, 1, 2, 2)},
		"longer, with too little":          {spans(1, 1, 2, 2, 1, 9), spans(0, 9, 0, 9, 0, 9, 0, 9), 2, nil},
		"longer, in the second window":     {spans(0, 9), spans(0, 9, 0, 9, 0, 0, 0, 1), 2, spans(0, 9, 0, 9)},
		"the second one with too little":   {spans(0, 9), spans(0, 9, 0, 9, 0, 0, 1, 1), 2, nil},
		"nothing anywhere":                 {spans(0, 0), spans(0, 0, 0, 0), 5, spans(0, 0, 0, 0, 0, 0, 0, 0, 0, 0)},
		"too much in all":                  {spans(3, 3, 3, 3), spans(0, 2, 0, 2, 0, 1), 6, nil},
		"just enough in all":               {spans(3, 3, 3, 3), spans(0, 2, 0, 2, 0, 2), 6, spans(0, 2, 0, 2, 0, 2, 0, 2, 0, 2, 0, 2)},
		"all power":                        {spans(1<<30, 1<<30), spans(0, 1<<30, 0, 1<<30), 2, spans(0, 1<<30, 0, 1<<30)},
	} {
		l, e := fold.Trips(x.a, x.b, x.most)
		if !slices.Equal(l, x.want) || (e == api.OK) != (x.want != nil) || e != api.OK && e != api.ErrConflict {
			t.Errorf("%s: %v %d, want %v", what, l, e, x.want)
		}
	}
}

// P3.5, P3.10: all profiles that fit, and no others, for small windows.
func TestTripsAll(t *testing.T) {
	const greatest = 3
	n := &noise{state: 14}
	fitting, contradicting := 0, 0
	for range 3000 {
		most := 1 + n.upTo(5)
		a, b := make([]api.Span, 1+n.upTo(4)), make([]api.Span, 1+n.upTo(4))
		for _, l := range [][]api.Span{a, b} {
			for i := range l {
				l[i] = n.inside(span(0, greatest)) // so that no power is above it
			}
		}
		powers := make([]map[int]bool, most)
		for gate := range powers {
			powers[gate] = map[int]bool{}
		}
		profiles(a, b, most, greatest, func(l []int) {
			for gate, power := range l {
				powers[gate][power] = true
			}
		})
		l, e := fold.Trips(a, b, most)
		if len(powers[0]) == 0 {
			contradicting++
			if e != api.ErrConflict || len(l) != 0 {
				t.Fatalf("Trips(%v, %v, %d): %v %d, but nothing fits", a, b, most, l, e)
			}
		} else {
			fitting++
		}
		for gate, m := range powers {
			for power := range greatest + 2 {
				if len(l) > 0 && (l[gate].Lo <= power && power <= l[gate].Hi) != m[power] {
					t.Fatalf("Trips(%v, %v, %d): %v, but at the gate %d only %v fit", a, b, most, l, gate, m)
				}
				checkProfile(t, a, b, most, gate, power, m[power])
			}
		}
	}
	if fitting < 100 || contradicting < 100 {
		t.Errorf("only %d fit, and %d contradict", fitting, contradicting)
	}
}

// checkProfile checks that there is a profile with a power, or that there is
// none.
func checkProfile(t *testing.T, a, b []api.Span, most, gate, power int, is bool) {
	t.Helper()
	p, e := fold.Profile(a, b, most, gate, power)
	if is && (e != api.OK || len(p) != most || p[gate] != power || !fits(a, b, p)) {
		t.Fatalf("Profile(%v, %v, %d, %d, %d): %v %d", a, b, most, gate, power, p, e)
	}
	if !is && (e != api.ErrConflict || len(p) != 0) {
		t.Fatalf("Profile(%v, %v, %d, %d, %d): %v %d, but nothing fits", a, b, most, gate, power, p, e)
	}
}

// windows are pairs of them: equal ones, such that divide each other, and such
// that do not.
func windows() [][2]int {
	return [][2]int{{1, 1}, {1, 200}, {5, 5}, {6, 12}, {12, 4}, {6, 10}, {28, 29}, {40, 41}, {150, 187}, {200, 199}, {200, 200}, {7, 3}}
}

// profile returns the powers of some gates, most of them of nothing.
func (n *noise) profile(most int) []int {
	l := make([]int, most)
	strongest := n.of(10, 1000, 1000000)
	for r := range l {
		if n.upTo(2) == 0 {
			l[r] = n.upTo(strongest)
		}
	}
	return l
}

// P3.10, G1: powers of a profile that fits lie within what Trips returns;
// Profile has one for each end, and none beyond.
func TestTripsTruth(t *testing.T) {
	n := &noise{state: 15}
	for _, w := range windows() {
		for range 6 {
			most := n.of(1, 30, 200, 800)
			p := n.profile(most)
			err := n.of(0, 5, 1000)
			a, b := n.around(sums(p, w[0]), err), n.around(sums(p, w[1]), err)
			l := mustTrips(t, a, b, most)
			for gate, power := range p {
				if !isWithin(pt(power), l[gate]) {
					t.Fatalf("Trips(%v, %v, %d): %v, but %d at the gate %d fits", a, b, most, l[gate], power, gate)
				}
			}
			for range 8 {
				gate := n.upTo(most - 1)
				x := l[gate]
				checkProfile(t, a, b, most, gate, x.Lo, true)
				checkProfile(t, a, b, most, gate, x.Hi, true)
				checkProfile(t, a, b, most, gate, x.Lo+n.upTo(x.Hi-x.Lo), true)
				checkProfile(t, a, b, most, gate, x.Hi+1, false)
				if x.Lo > 0 {
					checkProfile(t, a, b, most, gate, x.Lo-1, false)
				}
			}
		}
	}
}

// P3.10, G1: with spans within others, what is returned lies within the
// others'.
func TestTripsWithin(t *testing.T) {
	n := &noise{state: 16}
	narrower := 0
	for _, w := range windows() {
		for range 6 {
			most := n.of(5, 30, 200)
			p := n.profile(most)
			a, b := n.around(sums(p, w[0]), 100), n.around(sums(p, w[1]), 100)
			outer := mustTrips(t, n.around(a, 500), n.around(b, 500), most)
			for gate, x := range mustTrips(t, a, b, most) {
				if !isWithin(x, outer[gate]) {
					t.Fatalf("Trips(%v, %v, %d) at the gate %d: %v, but %v", a, b, most, gate, x, outer[gate])
				}
				if x != outer[gate] {
					narrower++
				}
			}
		}
	}
	if narrower < 500 {
		t.Errorf("only %d spans are narrower", narrower)
	}
}
