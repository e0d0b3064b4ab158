package fold

import (
	"slices"

	"radome/api"
)

// flow is a profile as water in pipes, none of which is lost at the nodes:
// from the source to a node for each sum of the first train, from there
// through each gate to the node of the second train's sum that it is part of,
// and from there back to the source. The pipes of gates come first, in order.
type flow struct {
	pipes []pipe
	at    [][]int // for each node the pipes that begin or end there
}

// pipe leads from a node to another one; its flow is to lie within its bound,
// and never exceeds it.
type pipe struct {
	from, to int
	flow     int
	bound    api.Span
}

// noPipe stands for the pipe to a node where no search has come.
const noPipe = -1

// flowOf returns the pipes for two lists of sums, with no water in them.
func flowOf(a, b []api.Span, most int) *flow {
	f := &flow{at: make([][]int, 1+len(a)+len(b))}
	for gate := range most {
		// No sum is above MaxPower, so no power is.
		f.lay(1+gate%len(a), 1+len(a)+gate%len(b), api.Span{Lo: 0, Hi: api.MaxPower})
	}
	for i, x := range a {
		f.lay(0, 1+i, x)
	}
	for i, x := range b {
		f.lay(1+len(a)+i, 0, x)
	}
	return f
}

func (f *flow) lay(from, to int, bound api.Span) {
	f.at[from] = append(f.at[from], len(f.pipes))
	f.at[to] = append(f.at[to], len(f.pipes))
	f.pipes = append(f.pipes, pipe{from: from, to: to, bound: bound})
}

// settle lets all flows lie within their bounds, and reports whether that is
// possible. What a pipe lacks has to come around from its end to its begin; if
// it cannot, all that leaves the nodes that can be reached is as great as
// possible, and all that enters them as small as possible, and it is too much.
func (f *flow) settle() bool {
	for i, p := range f.pipes {
		if lack := p.bound.Lo - p.flow; lack > 0 && f.raise(i, lack) < lack {
			return false
		}
	}
	return true
}

// reach returns the least and the greatest flow through a pipe, if all flows
// lie within their bounds.
func (f *flow) reach(i int) api.Span {
	f.lower(i, f.pipes[i].flow-f.pipes[i].bound.Lo)
	least := f.pipes[i].flow
	f.raise(i, f.pipes[i].bound.Hi-least)
	return api.Span{Lo: least, Hi: f.pipes[i].flow}
}

// raise lets as much more flow through a pipe as possible, up to a limit, and
// returns how much it is.
func (f *flow) raise(i, limit int) int {
	more := f.send(f.pipes[i].to, f.pipes[i].from, i, limit)
	f.pipes[i].flow += more
	return more
}

// lower lets as much less flow through a pipe as possible, up to a limit.
func (f *flow) lower(i, limit int) {
	f.pipes[i].flow -= f.send(f.pipes[i].from, f.pipes[i].to, i, limit)
}

// send brings as much as possible, up to a limit, from a node to another one,
// by way of all pipes but one, and returns how much it is. As each way is a
// shortest one, there are not many of them, however much it is.
func (f *flow) send(from, to, without, limit int) int {
	sent := 0
	for sent < limit {
		by := f.search(from, to, without)
		if by[to] == noPipe {
			break
		}
		sent += f.along(by, from, to, limit-sent)
	}
	return sent
}

// search goes from a node on, by pipes in which more can flow, until it comes
// to another one. It returns for each node the pipe by which it has come there,
// noPipe if it has not. It does not use one of the pipes.
func (f *flow) search(from, to, without int) []int {
	by := slices.Repeat([]int{noPipe}, len(f.at))
	by[from] = without
	waiting := []int{from}
	for len(waiting) > 0 && by[to] == noPipe {
		node := waiting[0]
		waiting = waiting[1:]
		for _, i := range f.at[node] {
			next := f.pipes[i].other(node)
			if i != without && by[next] == noPipe && f.pipes[i].room(node) > 0 {
				by[next] = i
				waiting = append(waiting, next)
			}
		}
	}
	return by
}

// along sends as much as possible, up to a limit, on the way that a search has
// found, and returns how much it is.
func (f *flow) along(by []int, from, to, limit int) int {
	for node := to; node != from; {
		p := f.pipes[by[node]]
		node = p.other(node)
		limit = min(limit, p.room(node))
	}
	for node := to; node != from; {
		p := &f.pipes[by[node]]
		if p.to == node {
			p.flow += limit
		} else {
			p.flow -= limit
		}
		node = p.other(node)
	}
	return limit
}

// other returns the node at the other end of a pipe.
func (p pipe) other(node int) int {
	if node == p.from {
		return p.to
	}
	return p.from
}

// room returns how much more can flow from one end of a pipe to the other one:
// against the pipe as much as its own flow can become less.
func (p pipe) room(from int) int {
	if from == p.from {
		return p.bound.Hi - p.flow
	}
	return p.flow - p.bound.Lo
}
