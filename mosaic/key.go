package mosaic

import (
	"cmp"
	"maps"
	"slices"
	"strings"

	"radome/api"
)

// sorter puts keys in an order.
type sorter struct {
	compare func(a, b Key) int
}

// oldestFirst returns the sorter for the order of keys.
func oldestFirst() sorter { return sorterBy(func(a, b int) int { return cmp.Compare(a, b) }) }

// newestFirst returns a sorter that differs from it in the order of times.
func newestFirst() sorter { return sorterBy(func(a, b int) int { return cmp.Compare(b, a) }) }

// sorterBy returns a sorter for an order of times, in which equal times are
// ordered by their names, and then by their tilts.
func sorterBy(times func(a, b int) int) sorter {
	return sorter{compare: func(a, b Key) int {
		return cmp.Or(times(a.Time, b.Time), strings.Compare(a.Name, b.Name), cmp.Compare(a.Tilt, b.Tilt))
	}}
}

// keys returns the keys of all messages, each once.
func (s sorter) keys(messages map[Key]versions) []Key {
	return slices.SortedFunc(maps.Keys(messages), s.compare)
}

// compareVals compares the Vals of two messages with the same key.
func compareVals(a, b []api.Span) int {
	return slices.CompareFunc(a, b, func(x, y api.Span) int {
		return cmp.Or(cmp.Compare(x.Lo, y.Lo), cmp.Compare(x.Hi, y.Hi))
	})
}

// Keys returns the keys of all messages, in their order.
func (n *Node) Keys() []Key {
	if n.isNone() {
		return nil
	}
	return oldestFirst().keys(n.kept.messages)
}

// Contested returns the keys that several messages have, in their order.
func (n *Node) Contested() []Key {
	return slices.DeleteFunc(n.Keys(), func(x Key) bool { return !n.kept.isContested(x) })
}

// Missing returns the messages whose keys are not among some keys, or are
// contested, in the order of a snapshot; ErrMany if there are too many keys.
func (n *Node) Missing(keys []Key) ([]Message, api.Errno) {
	if n.isNone() {
		return nil, api.ErrNil
	}
	if len(keys) > MaxMessages {
		return nil, api.ErrMany
	}
	k := n.kept
	known := map[Key]bool{}
	for _, x := range keys {
		known[x] = true
	}
	var l []Message
	for _, m := range k.inOrder() {
		if !known[m.Key] || k.isContested(m.Key) {
			l = append(l, Message{Key: m.Key, Vals: slices.Clone(m.Vals)})
		}
	}
	return l, api.OK
}

// isContested reports whether several messages of a node have a key.
func (k *state) isContested(x Key) bool { return len(k.messages[x]) > 1 }

// inOrder returns all messages in the order of a snapshot; their Vals are those
// of the node.
func (k *state) inOrder() []Message {
	var l []Message
	for _, x := range oldestFirst().keys(k.messages) {
		for _, vals := range k.messages[x] {
			l = append(l, Message{Key: x, Vals: vals})
		}
	}
	return l
}
