package volume

import (
	"bytes"
	"iter"
	"slices"

	"radome/api"
)

// piece is what stands behind a byte 0.
type piece struct {
	at     int // where this byte 0 is
	text   []byte
	isLast bool
}

// block is a piece that is whole.
type block struct {
	label label
	body  []byte
	text  []byte // of the piece, so without the byte 0
}

// pieces yields the pieces of some bytes.
func pieces(b []byte) iter.Seq[piece] {
	return func(yield func(piece) bool) {
		zero := []byte{0}
		head, rest, isMore := bytes.Cut(b, zero)
		at := len(head)
		for isMore {
			p := piece{at: at}
			p.text, rest, isMore = bytes.Cut(rest, zero)
			p.isLast = !isMore
			if !yield(p) {
				return
			}
			at += 1 + len(p.text)
		}
	}
}

// scan returns the blocks of a file ahead of the first piece that is not whole, how
// many bytes there are ahead of this piece, and the error of Read.
func scan(b []byte) (l []block, good int, e api.Errno) {
	if len(b) > MaxFile {
		return nil, 0, api.ErrLong
	}
	behind, isFile := bytes.CutPrefix(b, []byte(letters))
	if !isFile || len(behind) > 0 && behind[0] != 0 {
		return nil, 0, api.ErrForm
	}
	for p := range pieces(b) {
		k, e := p.block()
		if e != api.OK {
			return l, p.at, e
		}
		if len(l) == MaxItems {
			return nil, 0, api.ErrMany
		}
		l = append(l, k)
	}
	return l, len(b), api.OK
}

// block returns the block that a piece is, if it is whole; otherwise ErrTorn,
// ErrSum or ErrForm.
func (p piece) block() (block, api.Errno) {
	body, e := p.body()
	if e != api.OK {
		return block{}, e
	}
	c, e := readBody(body, false)
	if e != api.OK {
		return block{}, e
	}
	return block{c.label(), body, p.text}, api.OK
}

// body returns what stands between the number of bytes and the sum, or ErrTorn or
// ErrSum.
func (p piece) body() ([]byte, api.Errno) {
	size, rest, isNumber := cutNumber(p.text)
	hasNoEnd := !slices.ContainsFunc(p.text, func(c byte) bool { return !isGoingOn(c) })
	if p.isLast && (hasNoEnd || isNumber && len(rest) < size+sumDigits) {
		return nil, api.ErrTorn
	}
	if !isNumber || len(rest) != size+sumDigits || !isSummed(p.text) {
		return nil, api.ErrSum
	}
	return rest[:size], api.OK
}

// isSummed reports whether the last bytes are the sum of those ahead of them.
func isSummed(l []byte) bool {
	from := len(l) - sumDigits
	return bytes.Equal(l[from:], appendSum(nil, sum(l[:from])))
}

// items returns those of blocks.
func items(l []block) []Item {
	var all []Item
	for _, k := range l {
		if c, e := readBody(k.body, true); e == api.OK { // as it is a block
			all = append(all, itemOf(c))
		}
	}
	return all
}
