package sift

import "radome/api"

// Reach returns how many rays and gates away what decides on a gate can be: the
// error of Check.
func Reach(l []Rule) (rays, gates int, e api.Errno) {
	if e := Check(l); e != api.OK {
		return 0, 0, e
	}
	for _, r := range l {
		a, b := reach(r.When)
		rays, gates = max(rays, a), max(gates, b)
	}
	return rays, gates, api.OK
}

// reach returns that of a condition or a value. Rays and Gates are 0 of nodes
// that do not ask neighbors.
func reach(n Node) (rays, gates int) {
	for _, a := range n.Args {
		r, g := reach(a)
		rays, gates = max(rays, r), max(gates, g)
	}
	return rays + n.Rays, gates + n.Gates
}

// Plain returns rules with their conditions in plain form: the error of Check.
func Plain(l []Rule) ([]Rule, api.Errno) {
	if e := Check(l); e != api.OK {
		return nil, e
	}
	var all []Rule
	for _, r := range l {
		all = append(all, Rule{Name: r.Name, When: plain(r.When)})
	}
	return all, api.OK
}

// plain returns the plain form of a condition or a value.
func plain(n Node) Node {
	if n.Op == Not {
		return plainNot(n.Args[0])
	}
	var args []Node
	for _, a := range n.Args {
		args = append(args, plain(a))
	}
	n.Args = args
	return n
}

// plainNot returns the plain form of the Not of a condition.
func plainNot(n Node) Node {
	switch n.Op {
	case True:
		return node(False)
	case False:
		return node(True)
	case Not:
		return plain(n.Args[0])
	case And, Or:
		return node(And+Or-n.Op, plainNot(n.Args[0]), plainNot(n.Args[1]))
	case Some, All:
		return Node{Op: Some + All - n.Op, Rays: n.Rays, Gates: n.Gates, Args: []Node{plainNot(n.Args[0])}}
	}
	return node(Not, plain(n))
}
