package cast

import (
	"slices"

	"radome/api"
	"radome/cell"
)

// Of returns the cloud of an area with a flow, and what it can grow; or the error
// of this cloud.
func Of(g api.Grid, a cell.Area, f Flow, grow int) (Cloud, api.Errno) {
	sure := slices.Concat(a.Kernels...)
	slices.Sort(sure)
	c := Cloud{Sure: slices.Compact(sure), May: slices.Clone(a.Pixels), Flow: f, Grow: grow}
	if e := CheckCloud(g, c); e != api.OK {
		return Cloud{}, e
	}
	return c, api.OK
}
