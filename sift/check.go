package sift

import (
	"radome/api"
	"radome/pulse"
)

// Check returns ErrMany if there are too many rules, or too many nodes of all
// of them; and for the first rule with an error, ErrName if it has no name, or
// a word of the language; ErrHave if an earlier one has the same; ErrDeep if
// its tree is too deep; and ErrArg if this is no condition.
func Check(l []Rule) api.Errno {
	if len(l) > MaxRules || nodesOf(l) > MaxNodes {
		return api.ErrMany
	}
	for i, r := range l {
		if !isName(r.Name) {
			return api.ErrName
		}
		if hasName(l[:i], r.Name) {
			return api.ErrHave
		}
		if e := checkTree(r.When, isCondition); e != api.OK {
			return e
		}
	}
	return api.OK
}

// checkWith returns the error of rules, or else that of a sweep.
func checkWith(l []Rule, s api.Sweep) api.Errno {
	if e := Check(l); e != api.OK {
		return e
	}
	return pulse.CheckSweep(s)
}

// checkAt returns ErrMany if a tree has too many nodes, ErrDeep if it is too
// deep, ErrArg if it is not of a form, the error of a sweep, and ErrNone if
// this has no such gate.
func checkAt(n Node, isFormed func(Node) bool, s api.Sweep, ray, gate int) api.Errno {
	if size(n, MaxNodes) > MaxNodes {
		return api.ErrMany
	}
	if e := checkTree(n, isFormed); e != api.OK {
		return e
	}
	if e := pulse.CheckSweep(s); e != api.OK {
		return e
	}
	if !isIn(ray, 0, len(s.Rays)-1) || !isIn(gate, 0, s.Site.Gates-1) {
		return api.ErrNone
	}
	return api.OK
}

// checkTree returns ErrDeep if a tree is too deep, and ErrArg if it is not of
// a form. It must not have too many nodes.
func checkTree(n Node, isFormed func(Node) bool) api.Errno {
	if depth(n) > MaxDepth {
		return api.ErrDeep
	}
	if !isFormed(n) {
		return api.ErrArg
	}
	return api.OK
}

// nodesOf returns how many nodes rules have together, or a number above
// MaxNodes if there are more than these.
func nodesOf(l []Rule) int {
	sum := 0
	for _, r := range l {
		sum += size(r.When, MaxNodes-sum)
	}
	return sum
}

// size returns how many nodes a tree has, or a number above most if there are
// more than these. It counts no further, as a tree that has itself among its
// nodes has no end.
func size(n Node, most int) int {
	sum := 1
	for _, a := range n.Args {
		if sum > most {
			break
		}
		sum += size(a, most-sum)
	}
	return sum
}

// depth returns the number of nodes on the longest way from the root.
func depth(n Node) int {
	deepest := 0
	for _, a := range n.Args {
		deepest = max(deepest, depth(a))
	}
	return deepest + 1
}

// isCondition reports whether a tree is a condition.
func isCondition(n Node) bool {
	switch n.Op {
	case True, False:
		return isBare(n, 0)
	case Not:
		return isBare(n, 1) && isCondition(n.Args[0])
	case And, Or:
		return isBare(n, 2) && isCondition(n.Args[0]) && isCondition(n.Args[1])
	case Some, All:
		return isAround(n)
	case Lt, Le, Gt, Ge, Eq, Ne:
		return isBare(n, 2) && isValue(n.Args[0]) && isValue(n.Args[1])
	}
	return false
}

// isValue reports whether a tree is a value.
func isValue(n Node) bool {
	switch n.Op {
	case Number:
		return isIn(n.Value, 0, MaxNumber) && n.Rays == 0 && n.Gates == 0 && len(n.Args) == 0
	case Power, Ratio, Match, Spread, Turn, Step, Kind, Ray, Gate, Tilt:
		return isBare(n, 0)
	case Count:
		return isAround(n)
	case Add, Sub:
		return isBare(n, 2) && isValue(n.Args[0]) && isValue(n.Args[1]) && !isSum(n.Args[1])
	}
	return false
}

// isAround reports whether a node has what those have that ask neighbors.
func isAround(n Node) bool {
	near := isIn(n.Rays, 0, MaxAround) && isIn(n.Gates, 0, MaxAround)
	return near && n.Value == 0 && len(n.Args) == 1 && isCondition(n.Args[0])
}

// isBare reports whether a node has so many nodes below it, and nothing else.
func isBare(n Node, args int) bool {
	return n.Value == 0 && n.Rays == 0 && n.Gates == 0 && len(n.Args) == args
}

func isSum(n Node) bool { return n.Op == Add || n.Op == Sub }

func hasName(l []Rule, name string) bool {
	for _, r := range l {
		if r.Name == name {
			return true
		}
	}
	return false
}

// isName reports whether a rule can have a string as its name.
func isName(s string) bool {
	return s != "" && len(s) <= api.MaxName && wordOf(s) == s && opOf(s, True, Sub) == 0
}

func isIn(n, least, most int) bool { return least <= n && n <= most }
