package fold

import "radome/api"

// Ray returns the speeds that each gate of a ray has in some course; ErrMany if
// there are too many gates, the error of the first set with one, and ErrRange
// if the jump or the bridge is out of its range.
func Ray(sets [][]api.Span, jump, bridge int) ([][]api.Span, api.Errno) {
	if e := checkRay(sets); e != api.OK {
		return nil, e
	}
	if e := checkLinks(jump, bridge); e != api.OK {
		return nil, e
	}
	// Along a ray links lead only on, so that speeds that stand link by link
	// can be put together to a course.
	return stable([][][]api.Span{sets}, jump, bridge)[0], api.OK
}

// Turn returns the stable sets of all rays; ErrMany if there are too many,
// ErrShape if they do not have the same number of gates, the error of the
// first ray with one, and ErrRange if the jump or the bridge is out of its
// range.
func Turn(rays [][][]api.Span, jump, bridge int) ([][][]api.Span, api.Errno) {
	if e := checkRays(rays); e != api.OK {
		return nil, e
	}
	if e := checkLinks(jump, bridge); e != api.OK {
		return nil, e
	}
	return stable(rays, jump, bridge), api.OK
}

// stable returns the stable sets of rays, whose sets have the form of sets.
func stable(rays [][][]api.Span, jump, bridge int) [][][]api.Span {
	n := netOf(rays, jump, bridge)
	n.settle()
	all := make([][][]api.Span, len(rays))
	for ray, sets := range rays {
		for gate := range sets {
			all[ray] = append(all[ray], n.sets[ray*len(sets)+gate])
		}
	}
	return all
}
