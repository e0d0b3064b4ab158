package sift

import (
	"strconv"
	"strings"

	"radome/api"
)

// texts are those of the nodes; numbers have their own.
var texts = [...]string{
	True: "true", False: "false", Not: "not", And: "and", Or: "or", Some: "some", All: "all",
	Lt: "<", Le: "<=", Gt: ">", Ge: ">=", Eq: "=", Ne: "!=",
	Power: "power", Ratio: "ratio", Match: "match", Spread: "spread", Turn: "turn", Step: "step",
	Kind: "kind", Ray: "ray", Gate: "gate", Tilt: "tilt",
	Count: "count", Add: "+", Sub: "-",
}

// Print returns the text of rules: the error of Check, or ErrLong if it is too
// long.
func Print(l []Rule) (string, api.Errno) {
	if e := Check(l); e != api.OK {
		return "", e
	}
	var all strings.Builder
	for _, r := range l {
		all.WriteString(r.Name + ": " + text(r.When) + ";\n")
	}
	if all.Len() > api.MaxText {
		return "", api.ErrLong
	}
	return all.String(), api.OK
}

// text returns the text of a condition or a value.
func text(n Node) string {
	name := texts[n.Op]
	switch n.Op {
	case Not:
		return name + " " + text(n.Args[0])
	case Some, All, Count:
		return name + " " + strconv.Itoa(n.Rays) + " " + strconv.Itoa(n.Gates) + " " + text(n.Args[0])
	case And, Or, Lt, Le, Gt, Ge, Eq, Ne:
		return "(" + between(n, name) + ")"
	case Add, Sub:
		return between(n, name)
	case Number:
		return strconv.Itoa(n.Value)
	}
	return name
}

// between returns the texts of both nodes below one, with a word between them.
func between(n Node, word string) string {
	return text(n.Args[0]) + " " + word + " " + text(n.Args[1])
}

// opOf returns the operation with a text, of those from the first one to the
// last one, or 0 if none has it.
func opOf(token string, first, last int) int {
	for op := first; op <= last; op++ {
		if op != Number && texts[op] == token {
			return op
		}
	}
	return 0
}
