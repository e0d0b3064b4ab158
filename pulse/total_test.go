package pulse_test

import (
	"slices"
	"testing"

	"radome/api"
	"radome/pulse"
)

// strangeTrains are valid in all but at most one number.
func strangeTrains() []pulse.Train {
	l := append(trains(), pulse.Train{})
	for _, n := range extremes() {
		for _, x := range []pulse.Train{one(), two(4), turns(3)} {
			for field := range 5 {
				y := x
				*[]*int{&y.Lambda, &y.Kind, &y.First, &y.Second, &y.Count}[field] = n
				l = append(l, y)
			}
		}
	}
	return l
}

func strangeReceivers() []pulse.Receiver {
	l := []pulse.Receiver{{}, {Level: 64, Phase: 4096, Noise: span(0, 1048576)}}
	for _, n := range extremes() {
		l = append(l, pulse.Receiver{Level: n}, pulse.Receiver{Phase: n}, pulse.Receiver{Noise: pt(n)}, pulse.Receiver{Noise: span(n, 5)})
	}
	return l
}

func strangeSamples() [][]pulse.Sample {
	l := [][]pulse.Sample{nil, {}, example(), phased(1023, 1023, make([]int, 64)...), make([]pulse.Sample, 65)}
	for _, n := range extremes() {
		for count := 2; count <= 4; count++ {
			row := phased(10, 10, 1, 2, 3, 4)[:count]
			row[n&1] = pulse.Sample{H: n, P: n, V: n, Q: n}
			l = append(l, row)
		}
	}
	return l
}

// P0: every function ends, without a panic, for all arguments; R2: with an
// error, all other results are zero values.
func TestAnyArguments(t *testing.T) {
	for _, x := range strangeTrains() {
		for _, r := range strangeReceivers() {
			for _, l := range strangeSamples() {
				echo, e := pulse.Hear(x, r, l)
				rows, e2 := pulse.Ray(x, r, [][]pulse.Sample{l, l})
				if e != api.OK && (echo != api.Echo{}) || e2 != api.OK && len(rows) != 0 || e == api.OK && len(rows) != 2 {
					t.Fatalf("Hear and Ray of %v, %v, %v: %v %d %v %d", x, r, l, echo, e, rows, e2)
				}
			}
		}
		for _, a := range extremes() {
			for _, b := range extremes() {
				for which := -1; which <= 2; which++ {
					if s, e := pulse.Speed(x, which, span(a, b), 1); e != api.OK && s != (api.Span{}) {
						t.Fatalf("Speed with the error %d: %v", e, s)
					}
				}
				pulse.Speed(x, a, pt(b), b)
				pulse.Speed(x, 0, pt(0), a)
			}
			if num, den, e := pulse.Fold(x, a&3); e != api.OK && (num != 0 || den != 0) {
				t.Fatalf("Fold with the error %d: %d %d", e, num, den)
			}
			if m, e := pulse.Reach(x, a&3); e != api.OK && m != 0 {
				t.Fatalf("Reach with the error %d: %d", e, m)
			}
			pulse.Fold(x, a)
			pulse.Reach(x, a)
		}
	}
}

// P0: echoes, sweeps and arcs of any numbers.
func TestAnyNumbers(t *testing.T) {
	for _, a := range extremes() {
		for _, b := range extremes() {
			for kind := range 5 {
				for _, good := range []api.Echo{{Kind: kind}, clearEcho(), mixedEcho()} {
					for field := range 7 {
						x := good
						s := []*api.Span{&x.Power, &x.Steps[0], &x.Steps[1], &x.Ratio, &x.Match, &x.Turn, {}}[field]
						*s = span(a, b)
						if field == 6 {
							x.Kind, x.Spread = a, b
						}
						e := pulse.CheckEcho(x)
						s1 := sweep()
						s1.Rays[2][1] = x
						wantErr(t, "a sweep with the same echo", pulse.CheckSweep(s1), e)
					}
				}
			}
			s := sweep()
			s.Tilt, s.Time = a, b
			pulse.CheckSweep(s)
			s = sweep()
			s.Site.Rose, s.Site.Gates = a, b
			pulse.CheckSweep(s)
			pulse.Arc([]int{a, b})
		}
	}
	pulse.CheckSweep(api.Sweep{})
}

// R4: arguments stay as they are, and results share no memory.
func TestNewMemory(t *testing.T) {
	l := []int{65000, 5, 200, 5}
	pulse.Arc(l)
	if !slices.Equal(l, []int{65000, 5, 200, 5}) {
		t.Errorf("Arc has changed its numbers: %v", l)
	}
	rows := [][]pulse.Sample{example(), example()}
	first, _ := pulse.Ray(one(), exact(), rows)
	if !slices.Equal(rows[0], example()) || !slices.Equal(rows[1], example()) {
		t.Errorf("Ray has changed its rows: %v", rows)
	}
	first[0] = api.Echo{}
	if again, _ := pulse.Ray(one(), exact(), rows); again[0] != firstEcho() || again[1] != firstEcho() {
		t.Errorf("Ray again: %v", again)
	}
}
