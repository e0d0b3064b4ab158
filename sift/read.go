package sift

import (
	"strconv"

	"radome/api"
)

// fault is the offset at which a text has not the form of rules.
type fault int

// reader reads rules from a text, token by token.
type reader struct {
	text  string
	at    int
	token string // what stands at this offset; none at the end, and where no token is
}

// Read returns the rules of a text: ErrLong if it is too long, ErrForm and the
// offset of its fault if it has not the form, or the error of Check.
func Read(s string) (l []Rule, at int, e api.Errno) {
	if len(s) > api.MaxText {
		return nil, 0, api.ErrLong
	}
	l, at, e = parse(s)
	if e != api.OK {
		return nil, at, e
	}
	if e := Check(l); e != api.OK {
		return nil, 0, e
	}
	return l, 0, api.OK
}

// parse returns the rules of a text, or ErrForm and its fault.
func parse(s string) (l []Rule, at int, e api.Errno) {
	defer func() {
		if x := recover(); x != nil {
			where, gaveUp := x.(fault)
			if !gaveUp { // no matter of the text
				panic(x)
			}
			l, at, e = nil, int(where), api.ErrForm
		}
	}()
	r := reader{text: s}
	r.next()
	for r.at < len(s) {
		l = append(l, r.rule())
	}
	return l, 0, api.OK
}

// next goes to the next token.
func (r *reader) next() {
	before := r.token
	behind := r.at + len(before)
	r.at = skip(r.text, behind)
	r.token = tokenOf(r.text[r.at:])
	joined := r.at == behind && numberOf(before) != ""
	if joined && (wordOf(r.token) != "" || numberOf(r.token) != "") {
		r.token = ""
	}
}

// giveUp ends the reading at a token that cannot stand where it does.
func (r *reader) giveUp() { panic(fault(r.at)) }

// has reports whether a token stands next, and goes on behind it if so.
func (r *reader) has(token string) bool {
	if r.token != token {
		return false
	}
	r.next()
	return true
}

// take goes on behind a token, which must stand next.
func (r *reader) take(token string) {
	if !r.has(token) {
		r.giveUp()
	}
}

// op returns the operation whose text stands next, of those from the first one
// to the last one, or 0 if it is none of them.
func (r *reader) op(first, last int) int {
	op := opOf(r.token, first, last)
	if op != 0 {
		r.next()
	}
	return op
}

// number returns the number that stands next, which must not be above most.
func (r *reader) number(most int) int {
	n, err := strconv.Atoi(r.token)
	if err != nil || n > most {
		r.giveUp()
	}
	r.next()
	return n
}

func (r *reader) rule() Rule {
	name := r.token
	if !isName(name) {
		r.giveUp()
	}
	r.next()
	r.take(":")
	when := r.cond()
	r.take(";")
	return Rule{Name: name, When: when}
}

func (r *reader) cond() Node {
	n := r.conj()
	for r.has(texts[Or]) {
		n = node(Or, n, r.conj())
	}
	return n
}

func (r *reader) conj() Node {
	n := r.prim()
	for r.has(texts[And]) {
		n = node(And, n, r.prim())
	}
	return n
}

func (r *reader) prim() Node {
	switch {
	case r.has(texts[True]):
		return node(True)
	case r.has(texts[False]):
		return node(False)
	case r.has(texts[Not]):
		return node(Not, r.prim())
	case r.has(texts[Some]):
		return r.around(Some)
	case r.has(texts[All]):
		return r.around(All)
	case r.has("("):
		n := r.cond()
		r.take(")")
		return n
	}
	return r.comparison()
}

// around returns the rest of a node that asks neighbors.
func (r *reader) around(op int) Node {
	rays := r.number(MaxAround)
	gates := r.number(MaxAround)
	return Node{Op: op, Rays: rays, Gates: gates, Args: []Node{r.prim()}}
}

func (r *reader) comparison() Node {
	a := r.value()
	sign := r.op(Lt, Ne)
	if sign == 0 {
		r.giveUp()
	}
	return node(sign, a, r.value())
}

func (r *reader) value() Node {
	n := r.item()
	for {
		sign := r.op(Add, Sub)
		if sign == 0 {
			return n
		}
		n = node(sign, n, r.item())
	}
}

func (r *reader) item() Node {
	if op := r.op(Power, Tilt); op != 0 {
		return node(op)
	}
	if r.has(texts[Count]) {
		return r.around(Count)
	}
	return Node{Op: Number, Value: r.number(MaxNumber)}
}

// node returns a node that has nothing but some nodes below it.
func node(op int, args ...Node) Node { return Node{Op: op, Args: args} }
