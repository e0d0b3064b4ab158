package wind

import (
	"iter"
	"slices"

	"radome/api"
)

// Blame returns the first set of sights that are in conflict; the error of the
// list, or ErrNone if there is none.
func Blame(l []Sight) ([]int, api.Errno) {
	if e := checkList(l); e != api.OK {
		return nil, e
	}
	if !agreeing(l).isEmpty() {
		return nil, api.ErrNone
	}
	set, _ := first(len(l), maxBlame, conflicts(l))
	return set, api.OK
}

// Without returns the first set of at most so many sights without which the
// others agree; the error of the list, ErrRange if this number is out of its
// range, or ErrConflict if there is none.
func Without(l []Sight, most int) ([]int, api.Errno) {
	if e := checkList(l); e != api.OK {
		return nil, e
	}
	if !isIn(most, 0, MaxOut) {
		return nil, api.ErrRange
	}
	set, ok := first(len(l), most, remedies(l))
	if !ok {
		return nil, api.ErrConflict
	}
	return set, api.OK
}

// first returns the first set of at most so many of n numbers that is wanted.
func first(n, most int, isWanted func(set []int) bool) (set []int, ok bool) {
	for set := range subsets(n, most) {
		if isWanted(set) {
			return slices.Clone(set), true
		}
	}
	return nil, false
}

// subsets yields the sets of at most so many of the numbers from 0 to n - 1, in
// their order. Each is the same list, with other numbers.
func subsets(n, most int) iter.Seq[[]int] {
	return func(yield func([]int) bool) {
		for size := range min(n, most) + 1 {
			set := make([]int, size)
			for i := range set {
				set[i] = i
			}
			for isSet := true; isSet; isSet = advance(set, n) {
				if !yield(set) {
					return
				}
			}
		}
	}
}

// advance turns a set into the next one of its size, if there is one.
func advance(set []int, n int) bool {
	for i := len(set) - 1; i >= 0; i-- {
		if set[i] == n-len(set)+i {
			continue // this number, and all behind it, are as great as they can be
		}
		set[i]++
		for j := i + 1; j < len(set); j++ {
			set[j] = set[j-1] + 1
		}
		return true
	}
	return false
}

// conflicts returns a function that reports whether the sights of a set are in
// conflict; those of all lesser sets are not.
func conflicts(l []Sight) func(set []int) bool {
	// Most sets differ in their last number only from the one before, so what
	// the other sights leave is kept.
	var others []int
	left := allWinds()
	return func(set []int) bool {
		if len(set) == 0 {
			return false
		}
		last := len(set) - 1
		if !slices.Equal(others, set[:last]) {
			others = slices.Clone(set[:last])
			left = agreeing(those(l, others))
		}
		return left.isMissed(l[set[last]])
	}
}

// those returns the sights with some numbers.
func those(l []Sight, numbers []int) []Sight {
	picked := make([]Sight, len(numbers))
	for i, n := range numbers {
		picked[i] = l[n]
	}
	return picked
}

// remedies returns a function that reports whether sights agree if those of a
// set are left out.
func remedies(l []Sight) func(set []int) bool {
	// One sight of each conflict has to be left out. So the few conflicts that
	// were met rule out nearly all sets, without a look at the winds.
	var met [][]int
	return func(set []int) bool {
		for _, conflict := range met {
			if !hasCommon(set, conflict) {
				return false
			}
		}
		conflict := conflictWithout(l, set)
		if len(conflict) == 0 {
			return true
		}
		met = append(met, conflict)
		return false
	}
}

func hasCommon(a, b []int) bool {
	return slices.ContainsFunc(a, func(n int) bool { return slices.Contains(b, n) })
}

// conflictWithout returns a conflict of at most three sights that are not in a
// set, or nothing if all others agree.
func conflictWithout(l []Sight, set []int) []int {
	var found []int
	for {
		left := agreeing(those(l, found))
		if left.isEmpty() {
			return found
		}
		last, ok := lastStraw(left, l, set)
		if !ok {
			return nil
		}
		// Those before the last one agree with what was found, so each conflict
		// of all of them has the last one.
		found = append(found, last)
	}
}

// lastStraw returns the first sight behind which nothing of a set of winds is
// left, if there is one; sights of a set of numbers are passed over.
func lastStraw(left winds, l []Sight, set []int) (n int, ok bool) {
	for n, x := range l {
		if slices.Contains(set, n) {
			continue
		}
		if left = left.agreeing(x); left.isEmpty() {
			return n, true
		}
	}
	return 0, false
}
