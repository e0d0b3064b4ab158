package cell

import "radome/api"

// Tree returns for each of some levels the parents of its areas; ErrRange if
// there are too few or too many levels, or if one is none, and ErrOrder if one
// is not greater than the one before it.
func Tree(f api.Field, levels []int) ([][]int, api.Errno) {
	if e := checkLevels(f, levels); e != api.OK {
		return nil, e
	}
	tree := make([][]int, len(levels))
	var below *chart
	for i, level := range levels {
		c := chartOf(f, level)
		tree[i] = c.parents(below)
		below = c
	}
	return tree, api.OK
}

// parents returns for each area the one in which it lies at the level below;
// none if there is no such level. An area lies in one as a whole, so that one of
// its pixels says which.
func (c *chart) parents(below *chart) []int {
	l := make([]int, len(c.areas))
	for i, pixels := range c.areas {
		l[i] = none
		if below != nil {
			l[i] = below.owner[pixels[0]]
		}
	}
	return l
}
