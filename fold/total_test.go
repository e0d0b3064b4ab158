package fold_test

import (
	"slices"
	"testing"

	"radome/api"
	"radome/fold"
	"radome/pulse"
)

// P0, R2: any trains, echoes and sweeps.
func TestAnyEchoes(t *testing.T) {
	for _, x := range trains() {
		for _, a := range extremes() {
			for _, b := range extremes() {
				echo := heard(span(a, b), span(b, a))
				if l, e := fold.Guesses(x, echo, 1000); e != api.OK && len(l) > 0 {
					t.Fatalf("Guesses(%v, %v): %v with the error %d", x, echo, l, e)
				}
				fold.Guesses(x, heard(pt(0), pt(1)), a)
				fold.Guesses(pulse.Train{Lambda: a, Kind: x.Kind, First: x.First, Second: b, Count: x.Count}, heard(pt(0), pt(1)), 1000)
				s := sweep()
				s.Rays[2][1] = echo
				if l, e := fold.Unfold(x, s, 1000, 0, 1); e != api.OK && len(l) > 0 {
					t.Fatalf("Unfold(%v, %v): %v with the error %d", x, s, l, e)
				}
				fold.Unfold(x, sweep(), a, 1, 1)
				fold.Unfold(x, sweep(), 1000, a, b)
				s = sweep()
				s.Site.Rose, s.Site.Gates = a, b
				fold.Unfold(x, s, 1000, 0, 1)
				if n, e := fold.Window(x, a, b); e != api.OK && n != 0 {
					t.Fatalf("Window(%v, %d, %d): %d with the error %d", x, a, b, n, e)
				}
				fold.Window(x, 0, a)
			}
		}
	}
	fold.Unfold(single(), api.Sweep{}, 1, 0, 1)
}

// P0, R2: any sets, jumps, bridges and sums.
func TestAnySets(t *testing.T) {
	for _, a := range extremes() {
		for _, b := range extremes() {
			sets := [][]api.Span{spans(0, 1), spans(a, b), spans(b, a, 3, 3)}
			u, e := fold.Union(sets[2])
			l, e2 := fold.Ray(sets, 3, 1)
			m, e3 := fold.Turn([][][]api.Span{sets, sets}, 3, 1)
			if e != api.OK && len(u) > 0 || e2 != api.OK && len(l) > 0 || e3 != api.OK && len(m) > 0 {
				t.Fatalf("%v: %v %d, %v %d, %v %d", sets, u, e, l, e2, m, e3)
			}
			fold.Ray(sets[:1], a, b)
			fold.Turn([][][]api.Span{sets[:1], nil}, a, b)
			fold.Turn([][][]api.Span{sets[:1]}, a, b)
			trips, e := fold.Trips(spans(a, b, 0, 5), spans(b, a), 3)
			profile, e2 := fold.Profile(spans(0, 5), spans(0, 7, 0, 1), 3, a, b)
			if e != api.OK && len(trips) > 0 || e2 != api.OK && len(profile) > 0 {
				t.Fatalf("%d, %d: %v %d, %v %d", a, b, trips, e, profile, e2)
			}
			fold.Trips(spans(0, 5), spans(0, 7), a)
			fold.Profile(spans(0, 5), spans(0, 7), a, 0, b)
		}
	}
	fold.Trips(nil, nil, 1)
	fold.Profile(nil, nil, 1, 0, 0)
}

// P0: what takes its time comes to an end: a helix, of which one step after
// another is lost from both ends on, and profiles as long as they can be.
func TestSlow(t *testing.T) {
	rays := make([][][]api.Span, 360)
	for ray := range rays {
		for range 20 {
			var s []api.Span
			for k := range 40 {
				s = append(s, pt(-190000+9000*k+25*ray))
			}
			rays[ray] = append(rays[ray], s)
		}
	}
	for ray, sets := range mustTurn(t, rays, 25, 1) {
		for gate, s := range sets {
			if len(s) > 0 {
				t.Fatalf("ray %d, gate %d: %v", ray, gate, s)
			}
		}
	}
	n := &noise{state: 17}
	p := n.profile(800)
	mustTrips(t, n.around(sums(p, 40), 9), n.around(sums(p, 41), 9), 800)
}

// R4: arguments stay as they are, and results share no memory.
func TestNewMemory(t *testing.T) {
	l := spans(5, 7, 1, 2, 2, 4)
	u, _ := fold.Union(l)
	u[0] = pt(9)
	if !slices.Equal(l, spans(5, 7, 1, 2, 2, 4)) {
		t.Errorf("Union has changed its spans: %v", l)
	}
	ordered := spans(1, 2, 5, 7)
	u, _ = fold.Union(ordered)
	u[0] = pt(9)
	if ordered[0] != span(1, 2) {
		t.Errorf("Union shares memory with its spans: %v", ordered)
	}
	sets := func() [][]api.Span { return [][]api.Span{spans(0, 9, 20, 30), spans(0, 9, 20, 30), nil, spans(1, 2)} }
	before, s := sets(), sets()
	// Sets that lose nothing, and sets that do.
	for _, jump := range []int{0, 400000} {
		want := mustRay(t, sets(), jump, 1)
		spoil(mustRay(t, s, jump, 1))
		rays := [][][]api.Span{s, s}
		for _, l := range mustTurn(t, rays, jump, 1) {
			spoil(l)
		}
		if !sameSets(s, before) {
			t.Fatalf("with the jump %d sets are changed: %v", jump, s)
		}
		if l := mustRay(t, s, jump, 1); !sameSets(l, want) {
			t.Fatalf("with the jump %d again: %v, want %v", jump, l, want)
		}
	}
	// A set with room behind it, which two gates of a result must not share.
	long := append(make([]api.Span, 0, 9), span(0, 9), span(20, 30))
	got := mustRay(t, [][]api.Span{long, long}, 400000, 1)
	got[0][0] = pt(9)
	got[0] = append(got[0], pt(99))
	if got[1][0] != span(0, 9) || long[0] != span(0, 9) || long[:3][2] != (api.Span{}) {
		t.Errorf("sets share memory: %v, %v", got, long)
	}
	a, b := spans(5, 5, 3, 3), spans(5, 5, 3, 3)
	mustTrips(t, a, b, 4)
	fold.Profile(a, b, 4, 2, 4)
	if !slices.Equal(a, spans(5, 5, 3, 3)) || !slices.Equal(b, a) {
		t.Errorf("sums are changed: %v, %v", a, b)
	}
	sweeps := sweep()
	for _, l := range mustUnfold(t, single(), sweeps, 100000, 0, 1) {
		for _, f := range l {
			clear(f.Guesses)
		}
	}
	again := mustUnfold(t, single(), sweeps, 100000, 0, 1)
	if !sameFound(again, wantUnfold(t, single(), sweep(), 100000, 0, 1)) {
		t.Errorf("Unfold again: %v", again)
	}
}

// spoil overwrites all spans of some sets.
func spoil(sets [][]api.Span) {
	for _, s := range sets {
		for i := range s {
			s[i] = pt(77)
		}
	}
}
