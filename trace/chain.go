package trace

import (
	"iter"
	"slices"

	"radome/api"
)

// Chain returns the chain of the standard of a test: ErrNone if there is no
// such test.
func (b *Book) Chain(test int) ([]string, api.Errno) {
	if b.isNone() {
		return nil, api.ErrNil
	}
	k := b.kept
	if !isIn(test, 0, len(k.tests)-1) {
		return nil, api.ErrNone
	}
	return slices.Collect(k.chain(k.tests[test].Standard)), api.OK
}

// Depends returns the names of all standards that come from one, and the
// numbers of all tests of these: ErrNone if it does not exist.
func (b *Book) Depends(name string) (standards []string, tests []int, e api.Errno) {
	if b.isNone() {
		return nil, nil, api.ErrNil
	}
	k := b.kept
	if k.standards[name] == nil {
		return nil, nil, api.ErrNone
	}
	for i, t := range k.tests {
		if k.comesFrom(t.Standard, name) {
			tests = append(tests, i)
		}
	}
	return k.madeFrom(name), tests, api.OK
}

// isBroken reports whether one in the chain of a standard is withdrawn.
func (k *state) isBroken(name string) bool {
	for link := range k.chain(name) {
		if k.standards[link].isWithdrawn {
			return true
		}
	}
	return false
}

// madeFrom returns the names of all standards that come from one, in the order
// in which they were entered.
func (k *state) madeFrom(name string) []string {
	var l []string
	for _, other := range k.names {
		if k.comesFrom(other, name) {
			l = append(l, other)
		}
	}
	return l
}

// comesFrom reports whether a standard has another one in its chain.
func (k *state) comesFrom(name, other string) bool {
	for link := range k.chain(name) {
		if link == other {
			return true
		}
	}
	return false
}

// chain yields the name of a standard, and then those from which it was made,
// up to its root.
func (k *state) chain(name string) iter.Seq[string] {
	return func(yield func(string) bool) {
		for link := name; link != ""; link = k.standards[link].Parent {
			if !yield(link) {
				return
			}
		}
	}
}
