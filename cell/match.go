package cell

import (
	"iter"

	"radome/api"
)

// sets are disjoint sets of some keys. Each key is alone at first.
type sets[K comparable] struct {
	towards map[K]K // what leads from a key to the head of its set
}

// head returns the same key of a set for all of its keys.
func (s *sets[K]) head(k K) K {
	head := k
	for next, leads := s.towards[head]; leads; next, leads = s.towards[head] {
		head = next
	}
	for k != head { // so that the next way is short
		next := s.towards[k]
		s.towards[k] = head
		k = next
	}
	return head
}

// join makes one set of those of two keys.
func (s *sets[K]) join(a, b K) {
	from, to := s.head(a), s.head(b)
	if from != to {
		s.towards[from] = to
	}
}

// Match returns the events between two maps; ErrShape if their grids are not
// equal, and ErrRange if there is no such level or reach.
func Match(a, b api.Field, level, reach int) ([]Event, api.Errno) {
	if e := checkMaps(a, b, level, reach); e != api.OK {
		return nil, e
	}
	return match(chartOf(a, level), chartOf(b, level), reach), api.OK
}

// match returns the events between an earlier chart and a later one. In the sets
// the areas of the later one are numbered behind those of the earlier one.
func match(a, b *chart, reach int) []Event {
	earlier, later := len(a.areas), len(b.areas)
	s := &sets[int]{towards: map[int]int{}}
	for i, j := range touching(a, b, reach) {
		s.join(i, earlier+j)
	}
	var l []Event
	events := map[int]int{} // their numbers, by the heads of their sets
	for n := range earlier + later {
		head := s.head(n)
		if _, exists := events[head]; !exists {
			events[head] = len(l)
			l = append(l, Event{})
		}
		e := &l[events[head]]
		if n < earlier {
			e.From = append(e.From, n)
		} else {
			e.To = append(e.To, n-earlier)
		}
	}
	for i := range l {
		l[i].Kind = kind(len(l[i].From), len(l[i].To))
	}
	return l
}

// kind returns the kind of an event, by how many areas it has.
func kind(from, to int) int {
	kinds := [3][3]int{
		{0, Birth, 0},
		{End, Kept, Split},
		{0, Join, Knot},
	}
	return kinds[min(from, 2)][min(to, 2)]
}

// touching yields the pairs of an area of a chart and one of another chart that
// touch, each pair once.
func touching(a, b *chart, reach int) iter.Seq2[int, int] {
	return func(yield func(int, int) bool) {
		met := make([]int, len(b.areas)) // the number of the last area that met it, and 1
		for i, pixels := range a.areas {
			for _, pixel := range pixels {
				for other := range around(a.grid, pixel, reach) {
					j := b.owner[other]
					if j == none || met[j] == i+1 {
						continue
					}
					met[j] = i + 1
					if !yield(i, j) {
						return
					}
				}
			}
		}
	}
}
