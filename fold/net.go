package fold

import (
	"slices"

	"radome/api"
)

// net has the sets of gates, and between which of them speeds cannot differ
// too much.
type net struct {
	sets  []set
	links [][]link
}

// link leads from a gate to another one, whose speed can differ by so much.
type link struct {
	to     int
	differ int
}

// list has gates that wait, each of them once.
type list struct {
	gates []int
	waits map[int]bool
}

// netOf returns the net of some rays, gate by gate, with its links.
func netOf(rays [][][]api.Span, jump, bridge int) *net {
	n := &net{}
	for _, sets := range rays {
		for _, s := range sets {
			n.sets = append(n.sets, slices.Clone(s))
		}
	}
	n.links = make([][]link, len(n.sets))
	if len(n.sets) == 0 {
		return n
	}
	gates := len(rays[0])
	for ray := range rays {
		n.join(row(ray*gates, gates, 1), false, jump, bridge)
	}
	for gate := range gates {
		n.join(row(gate, len(rays), gates), true, jump, bridge)
	}
	return n
}

// row returns the numbers of gates that lie at the same distance from each
// other.
func row(from, count, apart int) []int {
	l := make([]int, count)
	for i := range l {
		l[i] = from + i*apart
	}
	return l
}

// join links gates that lie in a row, or around the radar: each one that is
// known with the next one that is, if that is not too far away.
func (n *net) join(row []int, around bool, jump, bridge int) {
	for i, gate := range row {
		if len(n.sets[gate]) == 0 {
			continue
		}
		far := len(row) - 1
		if !around {
			far -= i
		}
		for d := 1; d <= min(far, bridge); d++ {
			next := row[(i+d)%len(row)]
			if len(n.sets[next]) > 0 {
				n.links[gate] = append(n.links[gate], link{to: next, differ: jump * d})
				n.links[next] = append(n.links[next], link{to: gate, differ: jump * d})
				break
			}
		}
	}
}

// settle leaves the stable sets: what a gate has lost can cost those linked
// with it something, until nothing is lost any more.
func (n *net) settle() {
	waiting := list{waits: map[int]bool{}}
	for gate := range n.sets {
		waiting.add(gate)
	}
	for len(waiting.gates) > 0 {
		gate := waiting.take()
		widened := n.sets[gate].widened
		var allowed set
		for i, l := range n.links[gate] {
			if i == 0 || l.differ != n.links[gate][i-1].differ {
				allowed = widened(l.differ) // mostly the same for all links
			}
			if n.narrow(l.to, allowed) {
				waiting.add(l.to)
			}
		}
	}
}

// narrow leaves of the set of a gate what is allowed, and reports whether
// something is lost.
func (n *net) narrow(gate int, allowed set) bool {
	if allowed.covers(n.sets[gate]) {
		return false
	}
	n.sets[gate] = n.sets[gate].common(allowed)
	return true
}

func (l *list) add(gate int) {
	if !l.waits[gate] {
		l.waits[gate] = true
		l.gates = append(l.gates, gate)
	}
}

// take returns the gate that has waited for the longest time.
func (l *list) take() int {
	gate := l.gates[0]
	l.gates = l.gates[1:]
	delete(l.waits, gate)
	return gate
}
