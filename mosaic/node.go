package mosaic

import (
	"maps"
	"slices"

	"radome/api"
)

// New returns a node of a network without messages, or the error of Check.
func New(s Spec) (*Node, api.Errno) {
	if e := Check(s); e != api.OK {
		return nil, e
	}
	s.Radars = slices.Clone(s.Radars)
	return &Node{kept: &state{spec: s, messages: map[Key]versions{}}}, api.OK
}

// isNone reports whether a node is nil, or no function of this package made it.
func (n *Node) isNone() bool { return n == nil || n.kept == nil }

// Offer gives a message to a node; false: it has it already. The error of the
// message, ErrLate if it is below the horizon, or ErrFull if there is no room.
func (n *Node) Offer(m Message) (bool, api.Errno) {
	if n.isNone() {
		return false, api.ErrNil
	}
	k := n.kept
	if e := k.spec.checkMessage(m); e != api.OK {
		return false, e
	}
	if m.Key.Time < k.horizon {
		return false, api.ErrLate
	}
	if k.has(m) {
		return false, api.OK
	}
	if k.count(k.horizon) >= MaxMessages {
		return false, api.ErrFull
	}
	k.add(m)
	return true, api.OK
}

// Merge gives all messages of another node, and its horizon, to a node, and
// returns how many of them are new; ErrShape if the other one is of another
// network, or ErrFull if there is no room.
func (n *Node) Merge(o *Node) (int, api.Errno) {
	if n.isNone() || o.isNone() {
		return 0, api.ErrNil
	}
	k, other := n.kept, o.kept
	if !k.spec.isSame(other.spec) {
		return 0, api.ErrShape
	}
	horizon := max(k.horizon, other.horizon)
	// The new ones are listed before any is added, as both nodes may be the same.
	var fresh []Message
	for _, m := range other.inOrder() {
		if m.Key.Time >= horizon && !k.has(m) {
			fresh = append(fresh, m)
		}
	}
	if k.count(horizon)+len(fresh) > MaxMessages {
		return 0, api.ErrFull
	}
	k.forget(horizon)
	for _, m := range fresh {
		k.add(m)
	}
	return len(fresh), api.OK
}

// Forget raises the horizon to a time, if it is below it, and returns how many
// messages are gone with that; ErrRange if there is no such time.
func (n *Node) Forget(time int) (int, api.Errno) {
	if n.isNone() {
		return 0, api.ErrNil
	}
	if !isTime(time) {
		return 0, api.ErrRange
	}
	k := n.kept
	if time <= k.horizon {
		return 0, api.OK
	}
	before := k.count(k.horizon)
	k.forget(time)
	return before - k.count(time), api.OK
}

// Horizon returns the time before which there are no messages.
func (n *Node) Horizon() int {
	if n.isNone() {
		return 0
	}
	return n.kept.horizon
}

// Copy returns an independent node with the same messages and horizon.
func (n *Node) Copy() *Node {
	if n.isNone() {
		return nil
	}
	same, _ := New(n.kept.spec)
	same.Merge(n)
	return same
}

// has reports whether a node has a message.
func (k *state) has(m Message) bool {
	_, found := k.messages[m.Key].find(m.Vals)
	return found
}

// add adds a message that a node does not have.
func (k *state) add(m Message) {
	v := k.messages[m.Key]
	at, _ := v.find(m.Vals)
	k.messages[m.Key] = slices.Insert(v, at, slices.Clone(m.Vals))
}

// count returns how many messages are not below a time.
func (k *state) count(time int) int {
	n := 0
	for x, v := range k.messages {
		if x.Time >= time {
			n += len(v)
		}
	}
	return n
}

// forget sets the horizon, and drops all messages that are below it.
func (k *state) forget(horizon int) {
	k.horizon = horizon
	maps.DeleteFunc(k.messages, func(x Key, _ versions) bool { return x.Time < horizon })
}

// find returns where some Vals are, or where they belong.
func (v versions) find(vals []api.Span) (at int, found bool) {
	return slices.BinarySearchFunc(v, vals, compareVals)
}
