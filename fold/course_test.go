package fold_test

import (
	"slices"
	"testing"

	"radome/api"
)

// place is a gate of a ray.
type place struct{ ray, gate int }

// bond is between two places that are linked, with the distance between them.
type bond struct {
	a, b place
	d    int
}

// wantAlong returns the links along one ray.
func wantAlong(ray int, sets [][]api.Span, bridge int) []bond {
	var l []bond
	for j := range sets {
		for i := range j {
			between := slices.ContainsFunc(sets[i+1:j], func(s []api.Span) bool { return len(s) > 0 })
			if len(sets[i]) > 0 && len(sets[j]) > 0 && !between && j-i <= bridge {
				l = append(l, bond{place{ray, i}, place{ray, j}, j - i})
			}
		}
	}
	return l
}

// wantAround returns the links around the radar.
func wantAround(rays [][][]api.Span, bridge int) []bond {
	var l []bond
	n := len(rays)
	for a := range rays {
		for j, s := range rays[a] {
			d := 1
			for d < n && len(rays[(a+d)%n][j]) == 0 {
				d++
			}
			if len(s) > 0 && d <= n-1 && d <= bridge {
				l = append(l, bond{place{a, j}, place{(a + d) % n, j}, d})
			}
		}
	}
	return l
}

// wantLinks returns all links of a radar.
func wantLinks(rays [][][]api.Span, bridge int) []bond {
	l := wantAround(rays, bridge)
	for ray, sets := range rays {
		l = append(l, wantAlong(ray, sets, bridge)...)
	}
	return l
}

// halves returns the halves of numbers of a set, which can tell sets apart
// whose spans end with integers.
func halves(s []api.Span, far int) map[int]bool {
	m := map[int]bool{}
	for half := -2 * far; half <= 2*far; half++ {
		if has(s, half) {
			m[half] = true
		}
	}
	return m
}

func hasOneNear(m map[int]bool, half, differ int) bool {
	for other := range m {
		if max(other-half, half-other) <= 2*differ {
			return true
		}
	}
	return false
}

// wantStable leaves out halves that nothing is near of, as long as there are
// such.
func wantStable(rays [][][]api.Span, jump, bridge, far int) map[place]map[int]bool {
	left := map[place]map[int]bool{}
	for ray, sets := range rays {
		for gate, s := range sets {
			left[place{ray, gate}] = halves(s, far)
		}
	}
	links := wantLinks(rays, bridge)
	for changed := true; changed; {
		changed = false
		for _, l := range links {
			for _, ends := range [2][2]place{{l.a, l.b}, {l.b, l.a}} {
				for half := range left[ends[0]] {
					if !hasOneNear(left[ends[1]], half, jump*l.d) {
						delete(left[ends[0]], half)
						changed = true
					}
				}
			}
		}
	}
	return left
}

// isStable reports whether sets have just the halves that are wanted.
func isStable(rays [][][]api.Span, want map[place]map[int]bool, far int) bool {
	for ray, sets := range rays {
		for gate, s := range sets {
			if !isFormed(s) {
				return false
			}
			for half := -2*far - 2; half <= 2*far+2; half++ {
				if has(s, half) != want[place{ray, gate}][half] {
					return false
				}
			}
		}
	}
	return true
}

// courses calls back with each course of a ray in halves, as far as they are
// multiples of some number: 1 for all of them, 2 for integers.
func courses(sets [][]api.Span, jump, bridge, unit, far int, course func(speeds []int)) {
	speeds := make([]int, len(sets))
	var from func(gate, last int)
	from = func(gate, last int) {
		if gate == len(sets) {
			course(speeds)
			return
		}
		if len(sets[gate]) == 0 {
			from(gate+1, last)
			return
		}
		for half := -2 * far; half <= 2*far; half += unit {
			linked := last >= 0 && gate-last <= bridge
			if has(sets[gate], half) && (!linked || max(half-speeds[last], speeds[last]-half) <= 2*jump*(gate-last)) {
				speeds[gate] = half
				from(gate+1, gate)
			}
		}
	}
	from(0, -1)
}

// runs cuts a ray where no link leads on: what is not in a run is not known
// there.
func runs(sets [][]api.Span, bridge int) [][][]api.Span {
	var all [][][]api.Span
	last := -1
	for gate, s := range sets {
		if len(s) == 0 {
			continue
		}
		if last < 0 || gate-last > bridge {
			all = append(all, make([][]api.Span, len(sets)))
		}
		all[len(all)-1][gate] = s
		last = gate
	}
	return all
}

// P3.2: the examples of Ray, and what is around them.
func TestRayExamples(t *testing.T) {
	a, b, c := spans(0, 0), spans(0, 0, 50, 50), spans(45, 60)
	for _, x := range []struct {
		sets         [][]api.Span
		jump, bridge int
		want         [][]api.Span
	}{
		{[][]api.Span{a, b, c}, 10, 1, [][]api.Span{nil, nil, nil}},
		{[][]api.Span{spans(40, 40), b, c}, 10, 1, [][]api.Span{spans(40, 40), spans(50, 50), c}},
		{[][]api.Span{spans(40, 40), nil, spans(0, 100)}, 10, 1, [][]api.Span{spans(40, 40), nil, spans(0, 100)}},
		{[][]api.Span{spans(40, 40), nil, spans(0, 100)}, 10, 2, [][]api.Span{spans(40, 40), nil, spans(20, 60)}},
		{nil, 10, 1, nil},
		{[][]api.Span{nil, nil}, 10, 1, [][]api.Span{nil, nil}},
		{[][]api.Span{c}, 0, 1, [][]api.Span{c}},
		// two runs, of which one has no course
		{[][]api.Span{a, c, nil, nil, b, c}, 10, 2, [][]api.Span{nil, nil, nil, nil, spans(50, 50), c}},
		{[][]api.Span{a, c, nil, b, c}, 10, 2, [][]api.Span{nil, nil, nil, nil, nil}},
		// spans that just touch what is allowed, and that just do not
		{[][]api.Span{spans(0, 5), spans(15, 20)}, 10, 1, [][]api.Span{spans(5, 5), spans(15, 15)}},
		{[][]api.Span{spans(0, 5), spans(15, 20)}, 9, 1, [][]api.Span{nil, nil}},
		// what is allowed around two spans becomes one
		{[][]api.Span{spans(0, 1, 21, 22), spans(-50, 50)}, 10, 1, [][]api.Span{spans(0, 1, 21, 22), spans(-10, 32)}},
		{[][]api.Span{spans(0, 1, 22, 23), spans(-50, 50)}, 10, 1, [][]api.Span{spans(0, 1, 22, 23), spans(-10, 11, 12, 33)}},
		// no jump at all
		{[][]api.Span{spans(0, 4, 6, 9), spans(3, 7), spans(4, 6)}, 0, 1, [][]api.Span{spans(4, 4, 6, 6), spans(4, 4, 6, 6), spans(4, 4, 6, 6)}},
		// the greatest jump, and the greatest bridge
		{[][]api.Span{spans(-200000, -200000), spans(200000, 200000)}, 400000, 1, [][]api.Span{spans(-200000, -200000), spans(200000, 200000)}},
		{[][]api.Span{spans(-200000, -200000), spans(-200000, 200000)}, 399999, 1, [][]api.Span{spans(-200000, -200000), spans(-200000, 199999)}},
		{append(append([][]api.Span{a}, many(15, nil)...), spans(-100, 100)), 5, 16, append(append([][]api.Span{a}, many(15, nil)...), spans(-80, 80))},
		{append(append([][]api.Span{a}, many(16, nil)...), spans(-100, 100)), 5, 16, append(append([][]api.Span{a}, many(16, nil)...), spans(-100, 100))},
	} {
		if l := mustRay(t, x.sets, x.jump, x.bridge); !sameSets(l, x.want) {
			t.Errorf("Ray(%v, %d, %d): %v, want %v", x.sets, x.jump, x.bridge, l, x.want)
		}
	}
}

// P3.2: the examples of Turn, and what is around them.
func TestTurnExamples(t *testing.T) {
	one := func(l ...[]api.Span) [][][]api.Span {
		var rays [][][]api.Span
		for _, s := range l {
			rays = append(rays, [][]api.Span{s})
		}
		return rays
	}
	a, b, c := spans(0, 10), spans(0, 100), spans(30, 40)
	for _, x := range []struct {
		rays         [][][]api.Span
		jump, bridge int
		want         [][][]api.Span
	}{
		{one(a, b, c), 20, 1, one(spans(10, 10), spans(10, 30), spans(30, 30))},
		{one(a, b, c), 19, 1, one(nil, nil, nil)}, // as the last one is linked with the first one
		{one(a, b, c), 30, 1, one(a, spans(0, 40), c)},
		{one(a), 0, 16, one(a)},
		{one(a, c), 20, 1, one(spans(10, 10), spans(30, 30))},
		{one(a, c), 19, 1, one(nil, nil)},
		{nil, 0, 1, nil},
		{one(nil, nil), 0, 1, one(nil, nil)},
		// a ray that is linked with none but itself
		{one(nil, b, nil), 0, 16, one(nil, b, nil)},
		// around the radar the shorter way counts too
		{one(a, nil, c), 20, 1, one(spans(10, 10), nil, spans(30, 30))},
		{one(a, nil, c), 10, 2, one(nil, nil, nil)},
		{one(nil, a, c, nil), 20, 1, one(nil, spans(10, 10), spans(30, 30), nil)},
		{one(nil, a, nil, b, nil, nil), 10, 1, one(nil, a, nil, b, nil, nil)},
		{one(nil, a, nil, b, nil, nil), 10, 2, one(nil, a, nil, spans(0, 30), nil, nil)},
		{one(b, nil, nil, a, nil), 10, 1, one(b, nil, nil, a, nil)},
		{one(b, nil, nil, a, nil), 10, 2, one(spans(0, 30), nil, nil, a, nil)},
		// what is torn tears all that is linked, and nothing else
		{[][][]api.Span{{a, b, nil, b}, {c, b, nil, b}}, 19, 1, [][][]api.Span{{nil, nil, nil, b}, {nil, nil, nil, b}}},
		// along and around together
		{[][][]api.Span{{a, b}, {b, b}, {b, b}, {b, b}}, 1, 1, [][][]api.Span{{a, spans(0, 11)}, {spans(0, 11), spans(0, 12)}, {spans(0, 12), spans(0, 13)}, {spans(0, 11), spans(0, 12)}}},
	} {
		if l := mustTurn(t, x.rays, x.jump, x.bridge); !sameRays(l, x.want) {
			t.Errorf("Turn(%v, %d, %d): %v, want %v", x.rays, x.jump, x.bridge, l, x.want)
		}
	}
}

// P3.2: the sets of a ray are those of all its courses, run by run; P3.7: ends
// of spans belong to courses of integers; the stable sets of one ray are the
// same.
func TestRayCourses(t *testing.T) {
	const far = 4
	n := &noise{state: 4}
	torn, cut := 0, 0
	for range 1500 {
		rays := n.rays(1, n.upTo(5), 2, far)
		sets, jump, bridge := rays[0], n.upTo(4), n.of(1, 2, 16)
		got := mustRay(t, sets, jump, bridge)
		want, whole := map[place]map[int]bool{}, map[place]map[int]bool{}
		for gate := range sets {
			want[place{0, gate}], whole[place{0, gate}] = map[int]bool{}, map[int]bool{}
		}
		for _, run := range runs(sets, bridge) {
			for unit, found := range map[int]map[place]map[int]bool{1: want, 2: whole} {
				courses(run, jump, bridge, unit, far, func(speeds []int) {
					for gate, s := range run {
						if len(s) > 0 {
							found[place{0, gate}][speeds[gate]] = true
						}
					}
				})
			}
		}
		if !isStable([][][]api.Span{got}, want, far) {
			t.Fatalf("Ray(%v, %d, %d): %v", sets, jump, bridge, got)
		}
		for gate, s := range got {
			for _, x := range s {
				if !whole[place{0, gate}][2*x.Lo] || !whole[place{0, gate}][2*x.Hi] {
					t.Fatalf("Ray(%v, %d, %d): %v has ends that are of no course", sets, jump, bridge, got)
				}
			}
			if len(s) == 0 && len(sets[gate]) > 0 {
				torn++
			} else if !slices.Equal(s, sets[gate]) {
				cut++
			}
		}
		if turn := mustTurn(t, rays, jump, bridge); !sameSets(turn[0], got) {
			t.Fatalf("Turn(%v, %d, %d): %v, want %v", rays, jump, bridge, turn, got)
		}
	}
	if torn < 100 || cut < 100 {
		t.Errorf("only %d sets that are torn, and %d that are cut", torn, cut)
	}
}

// P3.2, P3.7: the stable sets are the greatest ones in which all speeds have
// what they need.
func TestTurnStable(t *testing.T) {
	const far = 5
	n := &noise{state: 5}
	torn, cut := 0, 0
	for range 800 {
		rays := n.rays(1+n.upTo(6), 1+n.upTo(2), 3, far)
		jump, bridge := n.upTo(4), n.of(1, 2, 3, 16)
		got := mustTurn(t, rays, jump, bridge)
		if !isStable(got, wantStable(rays, jump, bridge, far), far) {
			t.Fatalf("Turn(%v, %d, %d): %v", rays, jump, bridge, got)
		}
		for ray, sets := range got {
			for gate, s := range sets {
				if len(s) == 0 && len(rays[ray][gate]) > 0 {
					torn++
				} else if !slices.Equal(s, rays[ray][gate]) {
					cut++
				}
			}
		}
	}
	if torn < 100 || cut < 100 {
		t.Errorf("only %d sets that are torn, and %d that are cut", torn, cut)
	}
}

// near returns the integer of a set that is nearest to a number.
func near(s []api.Span, to int) int {
	best := s[0].Lo
	for _, x := range s {
		if n := min(max(to, x.Lo), x.Hi); max(n-to, to-n) < max(best-to, to-best) {
			best = n
		}
	}
	return best
}

// P3.7: from each end of each span a course of integers leads on, both ways,
// for sets of any size.
func TestRayLong(t *testing.T) {
	n := &noise{state: 6}
	ends := 0
	for range 30 {
		rays := n.rays(1, 200, n.of(1, 10, 256), 200000)
		jump, bridge := n.of(0, 3000, 30000, 100000), n.of(1, 3, 16)
		got := mustRay(t, rays[0], jump, bridge)
		links := wantAlong(0, rays[0], bridge)
		follow := func(gate, speed, way int) {
			for i := range links {
				l := links[i]
				from, to := l.a.gate, l.b.gate
				if way < 0 {
					l = links[len(links)-1-i]
					from, to = l.b.gate, l.a.gate
				}
				if from != gate {
					continue
				}
				next := near(got[to], speed)
				if max(next-speed, speed-next) > jump*l.d {
					t.Fatalf("no course from %d at the gate %d on: %d at the gate %d, with the jump %d", speed, gate, next, to, jump)
				}
				gate, speed = to, next
			}
		}
		for gate, s := range got {
			for _, x := range s {
				if n.upTo(9) > 0 {
					continue
				}
				ends++
				follow(gate, x.Lo, 1)
				follow(gate, x.Lo, -1)
				follow(gate, x.Hi, 1)
				follow(gate, x.Hi, -1)
			}
		}
	}
	if ends < 1000 {
		t.Errorf("only %d spans", ends)
	}
}

// lessRays returns sets within others, with the same gates known.
func (n *noise) lessRays(rays [][][]api.Span) [][][]api.Span {
	all := make([][][]api.Span, len(rays))
	for ray, sets := range rays {
		for _, s := range sets {
			all[ray] = append(all[ray], n.less(s))
		}
	}
	return all
}

func areWithin(rays, outer [][][]api.Span) bool {
	for ray, sets := range rays {
		for gate, s := range sets {
			if !isSetWithin(s, outer[ray][gate]) {
				return false
			}
		}
	}
	return true
}

// P3.8, G1: from sets within others, a less jump and a greater bridge follow
// sets within others.
func TestFewer(t *testing.T) {
	n := &noise{state: 7}
	for range 2000 {
		rays := n.rays(1+n.upTo(7), 1+n.upTo(5), 4, n.of(5, 100, 200000))
		jump, bridge := n.of(0, 3, 20, 10000, 400000), 1+n.upTo(14)
		outer := mustTurn(t, rays, jump, bridge)
		if !areWithin(outer, rays) {
			t.Fatalf("Turn(%v, %d, %d): %v", rays, jump, bridge, outer)
		}
		within := n.lessRays(rays)
		for what, l := range map[string][][][]api.Span{
			"sets within others": mustTurn(t, within, jump, bridge),
			"a less jump":        mustTurn(t, rays, n.upTo(jump), bridge),
			"a greater bridge":   mustTurn(t, rays, jump, bridge+1+n.upTo(15-bridge)),
			"all three":          mustTurn(t, within, n.upTo(jump), bridge+1),
			"a ray of its own":   {mustRay(t, within[0], jump, bridge)},
		} {
			out := outer
			if what == "a ray of its own" {
				out = [][][]api.Span{mustRay(t, rays[0], jump, bridge)}
			}
			if !areWithin(l, out) {
				t.Fatalf("%s of %v, %d, %d: %v, but %v", what, rays, jump, bridge, l, outer)
			}
		}
	}
}

// P3.8: sets that are put in again, and rays that are numbered in another way.
func TestAgain(t *testing.T) {
	n := &noise{state: 8}
	again := 0
	for range 2000 {
		rays := n.rays(1+n.upTo(7), 1+n.upTo(5), 4, n.of(5, 100, 200000))
		jump, bridge := n.of(0, 3, 20, 10000, 100000), 1+n.upTo(15)
		got := mustTurn(t, rays, jump, bridge)
		from := n.upTo(len(rays) - 1)
		turned := mustTurn(t, slices.Concat(rays[from:], rays[:from]), jump, bridge)
		if !sameRays(turned, slices.Concat(got[from:], got[:from])) {
			t.Fatalf("Turn(%v, %d, %d) from %d on: %v, want %v", rays, jump, bridge, from, turned, got)
		}
		if areKnown(got, rays) {
			again++
			if l := mustTurn(t, got, jump, bridge); !sameRays(l, got) {
				t.Fatalf("Turn(%v, %d, %d) again: %v", got, jump, bridge, l)
			}
		}
	}
	if again < 500 {
		t.Errorf("only %d again", again)
	}
}

// areKnown reports whether none of some sets has become empty.
func areKnown(rays, before [][][]api.Span) bool {
	for ray, sets := range rays {
		for gate, s := range sets {
			if len(s) == 0 && len(before[ray][gate]) > 0 {
				return false
			}
		}
	}
	return true
}

// P3.2: sets can come out with more spans than may be put in.
func TestMoreSpans(t *testing.T) {
	a, b := spans(-200000, -1), spans(-200000, -1)
	for i := range 255 {
		a = append(a, span(100*i, 100*i+60))
		b = append(b, span(100*i+30, 100*i+110-20*(i%2)))
	}
	got := mustRay(t, [][]api.Span{a, b}, 0, 1)
	want := spans(-200000, -1)
	for i := range 255 {
		if i > 0 && i%2 == 1 {
			want = append(want, span(100*i, 100*i+10))
		}
		want = append(want, span(100*i+30, 100*i+60))
	}
	if len(want) <= 256 || !sameSets(got, [][]api.Span{want, want}) {
		t.Errorf("%d spans: %v, want %v", len(got[0]), got[0], want)
	}
}
