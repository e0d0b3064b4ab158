package volume

import (
	"bytes"
	"cmp"
	"slices"

	"radome/api"
)

// Join returns the file with the items of two, each once, by their times and then
// by their blocks. It returns the error of Read for one of both, ErrMany if there
// would be too many items, or ErrLong if the file would be too long.
func Join(a, b []byte) ([]byte, api.Errno) {
	some, _, e := scan(a)
	if e != api.OK {
		return nil, e
	}
	others, _, e := scan(b)
	if e != api.OK {
		return nil, e
	}
	all := slices.Concat(some, others)
	slices.SortFunc(all, byTime)
	all = slices.CompactFunc(all, func(k, other block) bool { return byTime(k, other) == 0 })
	if len(all) > MaxItems {
		return nil, api.ErrMany
	}
	joined := []byte(letters)
	for _, k := range all {
		joined = append(append(joined, 0), k.text...)
	}
	if len(joined) > MaxFile {
		return nil, api.ErrLong
	}
	return joined, api.OK
}

// byTime orders blocks by their times, and by their bytes.
func byTime(k, other block) int {
	return cmp.Or(cmp.Compare(k.label.time, other.label.time), bytes.Compare(k.text, other.text))
}
