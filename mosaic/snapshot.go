package mosaic

import (
	"bytes"

	"radome/api"
)

const (
	letters = "RDM1"

	group     = 128 // of 7 bits
	maxGroups = 5   // hold every number that a snapshot can have
)

// malformed ends the reading of bytes that are no snapshot.
type malformed struct{}

// reader takes the bytes of a snapshot, from the first one on.
type reader struct{ rest []byte }

// Snapshot returns a node as bytes.
func (n *Node) Snapshot() []byte {
	if n.isNone() {
		return nil
	}
	k := n.kept
	l := k.inOrder()
	b := appendNumber([]byte(letters), k.horizon)
	b = appendNumber(b, len(l))
	for _, m := range l {
		b = appendMessage(b, m)
	}
	c := sum(b)
	return append(b, byte(c>>24), byte(c>>16), byte(c>>8), byte(c))
}

// Restore returns the node of a snapshot; the error of Check for its network, or
// ErrForm if the bytes are not a snapshot of a node of it.
func Restore(s Spec, b []byte) (n *Node, e api.Errno) {
	if n, e = New(s); e != api.OK {
		return nil, e
	}
	defer func() {
		if x := recover(); x != nil {
			if _, gaveUp := x.(malformed); !gaveUp { // no matter of the bytes
				panic(x)
			}
			n, e = nil, api.ErrForm
		}
	}()
	r := reader{rest: b}
	r.fill(n)
	// The reader takes more than snapshots: what is out of order, there twice, or
	// longer than needed, and any check. But a node has one snapshot only.
	if !bytes.Equal(b, n.Snapshot()) {
		giveUp()
	}
	return n, api.OK
}

// sum returns the check that stands behind some bytes.
func sum(l []byte) uint32 {
	c := uint32(1)
	for _, b := range l {
		c = 31*c + uint32(b) + 1 // it wraps around, so it is modulo 2^32
	}
	return c
}

func appendMessage(b []byte, m Message) []byte {
	b = appendNumber(b, len(m.Key.Name))
	b = append(b, m.Key.Name...)
	b = appendNumber(b, m.Key.Tilt)
	b = appendNumber(b, m.Key.Time)
	for _, v := range m.Vals {
		b = appendNumber(b, v.Lo)
		b = appendNumber(b, v.Hi-v.Lo)
	}
	return b
}

func appendNumber(b []byte, n int) []byte {
	for ; n >= group; n /= group {
		b = append(b, byte(n%group+group))
	}
	return append(b, byte(n))
}

// giveUp ends the reading.
func giveUp() { panic(malformed{}) }

// fill gives the horizon and the messages of a snapshot to a node without any.
func (r *reader) fill(n *Node) {
	r.take(len(letters))
	if _, e := n.Forget(r.number()); e != api.OK {
		giveUp()
	}
	for range r.number() {
		if _, e := n.Offer(r.message(n.kept.spec.pixels())); e != api.OK {
			giveUp()
		}
	}
}

func (r *reader) message(pixels int) Message {
	name := string(r.take(r.number()))
	m := Message{Key: Key{Name: name, Tilt: r.number(), Time: r.number()}}
	for range pixels {
		lo := r.number()
		m.Vals = append(m.Vals, api.Span{Lo: lo, Hi: lo + r.number()})
	}
	return m
}

// number takes a number, which can have more groups than it needs.
func (r *reader) number() int {
	n, unit := 0, 1
	for range maxGroups {
		b := int(r.take(1)[0])
		n += b % group * unit
		if b < group {
			return n
		}
		unit *= group
	}
	giveUp()
	return 0
}

// take takes so many bytes.
func (r *reader) take(count int) []byte {
	if count > len(r.rest) {
		giveUp()
	}
	taken := r.rest[:count]
	r.rest = r.rest[count:]
	return taken
}
