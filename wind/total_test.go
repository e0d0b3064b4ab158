package wind_test

import (
	"fmt"
	"testing"

	"radome/api"
	"radome/wind"
)

// P0: every function ends, without a panic, for all arguments; R2: with an
// error, all other results are zero values.
func TestAnyArguments(t *testing.T) {
	changes := []func(x *wind.Sight, m, n int){
		func(x *wind.Sight, m, n int) {},
		func(x *wind.Sight, m, n int) { x.X, x.Y = m, n },
		func(x *wind.Sight, m, n int) { x.X, x.L = m, n },
		func(x *wind.Sight, m, n int) { x.X, x.Y, x.L = m, 0, n },
		func(x *wind.Sight, m, n int) { x.Speed = span(m, n) },
	}
	for i, change := range changes {
		for _, m := range extremes() {
			for _, n := range extremes() {
				bad := sightC()
				change(&bad, m, n)
				wind.Check(bad)
				for _, l := range [][]wind.Sight{nil, list(bad), list(sightA(), sight(-1, 0, 1, 1, 2), bad)} {
					for name, call := range listCalls(l, m, n) {
						if isNothing, e := call(); e != api.OK && !isNothing {
							t.Errorf("%s, change %d with %d and %d: error %d, and a result", name, i, m, n, e)
						}
					}
				}
			}
		}
	}
}

// P0 and R2 of sites, rays and places.
func TestAnyGates(t *testing.T) {
	changes := []func(s *api.Site, m, n int){
		func(s *api.Site, m, n int) {},
		func(s *api.Site, m, n int) { s.X, s.Y = m, n },
		func(s *api.Site, m, n int) { s.Rose, s.Gates = m, n },
		func(s *api.Site, m, n int) { s.Step, s.Width = m, n },
		func(s *api.Site, m, n int) { s.Z, s.Name = m, "" },
	}
	for _, change := range changes {
		for _, m := range extremes() {
			for _, n := range extremes() {
				s := site(2)
				change(&s, m, n)
				for _, x := range [][4]int{{m, n, m, n}, {0, m, 0, n}, {m, 0, -5, 5}, {9, 3, m, n}} {
					speed := span(x[2], x[3])
					one, e := wind.Look(s, x[0], x[1], speed, speed)
					if e != api.OK && one != (wind.Sight{}) {
						t.Errorf("Look of %v and %v: error %d, and a result", s, x, e)
					}
					l, e := wind.Ring(s, x[0], []wind.Ray{{}, {Ray: x[1], Speed: speed}}, speed)
					if e != api.OK && len(l) > 0 {
						t.Errorf("Ring of %v and %v: error %d, and a result", s, x, e)
					}
					l, e = wind.Place([]wind.Seen{{Site: site(1)}, {Site: s, Tilt: x[0], Speed: speed, Rise: speed}}, x[1], x[2])
					if e != api.OK && len(l) > 0 {
						t.Errorf("Place of %v and %v: error %d, and a result", s, x, e)
					}
				}
			}
		}
	}
}

// R4: no argument is changed, and the same calls lead to the same results.
func TestArguments(t *testing.T) {
	for seed := range 100 {
		n := &noise{state: uint64(30000 + seed)}
		l := n.any(n.of(1, 3, 10), n.of(5, 1000, maxLength))
		rays := []wind.Ray{{Ray: n.upTo(7), Speed: span(-n.upTo(50), 50)}, {Ray: n.upTo(7)}}
		radars := []wind.Seen{{Site: site(2), Tilt: n.upTo(maxTilt)}, {Site: site(7), Speed: span(-7, n.upTo(50))}}
		answers := func() string {
			ring, e := wind.Ring(site(2), 7, rays, span(-1, 1))
			wantErr(t, "Ring", e, api.OK)
			place, e := wind.Place(radars, 500, 700)
			wantErr(t, "Place", e, api.OK)
			all := fmt.Sprint(ring, place)
			w, e := wind.Bounds(l)
			all += fmt.Sprint(w, e)
			s, e := wind.Along(l, 3, 4, 5)
			all += fmt.Sprint(s, e)
			set, e := wind.Blame(l)
			all += fmt.Sprint(set, e)
			set, e = wind.Without(l, 2)
			all += fmt.Sprint(set, e)
			from, to, e := wind.Front(l)
			return all + fmt.Sprint(from, to, e, strain(t, l), agrees(t, l, 5, 6))
		}
		before := fmt.Sprint(l, rays, radars)
		first := answers()
		wantSame(t, "the same calls", answers(), first)
		wantSame(t, "the arguments", fmt.Sprint(l, rays, radars), before)
	}
}

// spoil overwrites a list, and what it could grow into.
func spoil[T any](l []T, with T) {
	whole := l[:cap(l)]
	for i := range whole {
		whole[i] = with
	}
}

// R4: results are new memory, which the caller can change.
func TestNewMemory(t *testing.T) {
	for range 2 {
		ring, _ := wind.Ring(site(1), 0, []wind.Ray{{}, {Ray: 1}}, span(0, 0))
		wantSame(t, "Ring", ring, list(sight(4, 3, 5, 0, 0), sight(3, -4, 5, 0, 0)))
		spoil(ring, sightA())
		place, _ := wind.Place([]wind.Seen{{Site: site(1)}}, 0, 9)
		wantSame(t, "Place", place, list(sight(4, 3, 5, 0, 0)))
		spoil(place, sightA())
		set, _ := wind.Blame(list(sightA(), sightB(), sightC(), sightD()))
		wantSame(t, "Blame", set, []int{0, 1, 3})
		spoil(set, -7)
		set, _ = wind.Without(list(sightA(), sightB(), sightC(), sightD()), 2)
		wantSame(t, "Without", set, []int{3})
		spoil(set, -7)
	}
}
