package volume_test

import (
	"slices"

	"radome/api"
	"radome/beam"
	"radome/pulse"
	"radome/volume"
)

// What follows is the chapter, word by word: a writer whose pieces are lists of
// numbers, and a reader that takes all it can, and then asks whether the item is
// valid, and its block is what it has read.

// wantCheck is the error of Check.
func wantCheck(x volume.Item) api.Errno {
	isSweep := x.Sweep.Site != (api.Site{}) || x.Sweep.Tilt != 0 || x.Sweep.Time != 0 || len(x.Sweep.Rays) != 0
	isField := x.Field.Grid != (api.Grid{}) || len(x.Field.Vals) != 0
	isTime := 0 <= x.Time && x.Time <= maxTime
	switch x.Kind {
	case 1:
		if x.Name != "" || x.Time != 0 || isField || x.Text != "" {
			return api.ErrArg
		}
		return pulse.CheckSweep(x.Sweep)
	case 2:
		if isSweep || x.Text != "" {
			return api.ErrArg
		}
		if !beam.Name(x.Name) {
			return api.ErrName
		}
		if !isTime {
			return api.ErrRange
		}
		return beam.CheckField(x.Field)
	case 3:
		if isSweep || isField || x.Name != "" {
			return api.ErrArg
		}
		if !isTime {
			return api.ErrRange
		}
		if len(x.Text) > maxNote {
			return api.ErrLong
		}
		for i := range len(x.Text) {
			if x.Text[i] < 32 || x.Text[i] > 126 {
				return api.ErrForm
			}
		}
		return api.OK
	}
	return api.ErrArg
}

// digits returns those of a number to the base 127, the lowest one first, at least
// so many.
func digits(n, least int) []int {
	var l []int
	for n > 0 || len(l) < least {
		l = append(l, n%127)
		n = n / 127
	}
	return l
}

func marked(digits []int) []byte {
	var b []byte
	for i, d := range digits {
		mark := 128
		if i == len(digits)-1 {
			mark = 1
		}
		b = append(b, byte(mark+d))
	}
	return b
}

func number(l ...int) []byte {
	var b []byte
	for _, n := range l {
		b = append(b, marked(digits(n, 1))...)
	}
	return b
}

func integer(n int) []byte {
	if n >= 0 {
		return number(n * 2)
	}
	return number(n*-2 - 1)
}

func text(s string) []byte { return append(number(len(s)), s...) }

func spanBytes(s api.Span) []byte { return append(integer(s.Lo), number(s.Hi-s.Lo)...) }

func echoBytes(x api.Echo) []byte {
	switch x.Kind {
	case 1:
		return number(1, x.Power.Hi)
	case 2:
		return slices.Concat(number(2), spanBytes(x.Power), spanBytes(x.Ratio), spanBytes(x.Match), number(x.Spread))
	}
	return slices.Concat(number(x.Kind), spanBytes(x.Power), spanBytes(x.Ratio), spanBytes(x.Match), number(x.Spread), spanBytes(x.Steps[0]), spanBytes(x.Steps[1]), spanBytes(x.Turn))
}

// listBytes returns those of things, each of which is given by its own bytes; the
// first one stands ahead of the list.
func listBytes(things []string) []byte {
	var b []byte
	equal := 0
	for i := 1; i < len(things); i++ {
		if things[i] == things[i-1] {
			equal++
			if i == len(things)-1 {
				b = append(b, number(equal)...)
			}
			continue
		}
		b = append(append(b, number(equal)...), things[i]...)
		equal = 0
	}
	return b
}

// wantBody returns the body of a valid item.
func wantBody(x volume.Item) []byte {
	switch x.Kind {
	case 1:
		s := x.Sweep.Site
		things := []string{string(echoBytes(api.Echo{Kind: 1}))}
		for _, ray := range x.Sweep.Rays {
			for _, echo := range ray {
				things = append(things, string(echoBytes(echo)))
			}
		}
		return slices.Concat(number(1), text(s.Name), integer(s.X), integer(s.Y), number(s.Z, s.Rose, s.Gates, s.Step, s.Width, x.Sweep.Tilt, x.Sweep.Time), listBytes(things))
	case 2:
		g := x.Field.Grid
		things := []string{string(spanBytes(api.Span{}))}
		for _, s := range x.Field.Vals {
			things = append(things, string(spanBytes(s)))
		}
		return slices.Concat(number(2), text(x.Name), number(x.Time), integer(g.X), integer(g.Y), number(g.Size, g.Wide, g.High), listBytes(things))
	}
	return slices.Concat(number(3), number(x.Time), text(x.Text))
}

// summed returns bytes, and their sum.
func summed(b []byte) []byte {
	sum := 1
	for _, x := range b {
		sum = (sum*31 + int(x)) % 2147483647
	}
	return slices.Concat(b, marked(digits(sum, 5)))
}

// pieceOf returns the piece with a body, whatever this is.
func pieceOf(body []byte) []byte { return summed(append(number(len(body)), body...)) }

func wantBlock(x volume.Item) []byte { return append([]byte{0}, pieceOf(wantBody(x))...) }

func wantFile(l ...volume.Item) []byte {
	b := []byte("RVF1")
	for _, x := range l {
		b = append(b, wantBlock(x)...)
	}
	return b
}

// fileOf returns the file with some pieces, whatever these are.
func fileOf(pieces ...[]byte) []byte {
	b := []byte("RVF1")
	for _, p := range pieces {
		b = append(append(b, 0), p...)
	}
	return b
}

// taker takes things from bytes, also such as are not written as stated.
type taker struct {
	rest  []byte
	fails bool
}

func (r *taker) byte() byte {
	if len(r.rest) == 0 {
		r.fails = true
		return 1
	}
	b := r.rest[0]
	r.rest = r.rest[1:]
	return b
}

func (r *taker) number() int {
	n, unit := 0, 1
	for count := 0; ; count++ {
		b := int(r.byte())
		if count > 8 || b == 0 || b == 255 {
			r.fails = true
			return 0
		}
		if b < 128 {
			return n + (b-1)*unit
		}
		n += (b - 128) * unit
		unit *= 127
	}
}

func (r *taker) integer() int {
	if n := r.number(); n%2 == 0 {
		return n / 2
	} else {
		return -(n / 2) - 1
	}
}

func (r *taker) text() string {
	size := r.number()
	if size > maxNote {
		r.fails = true
		return ""
	}
	var b []byte
	for range size {
		b = append(b, r.byte())
	}
	return string(b)
}

func (r *taker) span() api.Span {
	lo := r.integer()
	return span(lo, lo+r.number())
}

func (r *taker) echo() api.Echo {
	x := api.Echo{Kind: r.number()}
	if x.Kind == 1 {
		x.Power.Hi = r.number()
		return x
	}
	x.Power, x.Ratio, x.Match, x.Spread = r.span(), r.span(), r.span(), r.number()
	if x.Kind == 3 {
		x.Steps[0], x.Steps[1], x.Turn = r.span(), r.span(), r.span()
	}
	return x
}

// taken takes a list of so many things.
func taken[T any](r *taker, count int, last T, next func() T) []T {
	var l []T
	for len(l) < count && !r.fails {
		for range min(r.number(), count-len(l)) {
			l = append(l, last)
		}
		if len(l) < count {
			last = next()
			l = append(l, last)
		}
	}
	return l
}

func (r *taker) item() volume.Item {
	x := volume.Item{Kind: r.number()}
	switch x.Kind {
	case 1:
		s := &x.Sweep.Site
		s.Name, s.X, s.Y, s.Z, s.Rose, s.Gates, s.Step, s.Width = r.text(), r.integer(), r.integer(), r.number(), r.number(), r.number(), r.number(), r.number()
		x.Sweep.Tilt, x.Sweep.Time = r.number(), r.number()
		if beam.CheckSite(*s) == api.OK {
			l := taken(r, 4*s.Rose*s.Gates, api.Echo{Kind: 1}, r.echo)
			for ; len(l) >= s.Gates; l = l[s.Gates:] {
				x.Sweep.Rays = append(x.Sweep.Rays, l[:s.Gates])
			}
		}
	case 2:
		x.Name, x.Time = r.text(), r.number()
		g := &x.Field.Grid
		g.X, g.Y, g.Size, g.Wide, g.High = r.integer(), r.integer(), r.number(), r.number(), r.number()
		if beam.CheckGrid(*g) == api.OK {
			x.Field.Vals = taken(r, g.Wide*g.High, api.Span{}, r.span)
		}
	case 3:
		x.Time, x.Text = r.number(), r.text()
	}
	return x
}

// wantPiece returns the item of a piece that is whole; the error otherwise.
func wantPiece(p []byte, isLast bool) (volume.Item, api.Errno) {
	r := &taker{rest: p}
	size := r.number()
	isNumber := !r.fails && slices.Equal(p[:len(p)-len(r.rest)], number(size)) && size < 127*127*127*127*127*127*127*127
	if isNumber && len(r.rest) == size+5 {
		item := (&taker{rest: r.rest[:size]}).item()
		if wantCheck(item) == api.OK && slices.Equal(wantBlock(item)[1:], p) {
			return item, api.OK
		}
	}
	allGoOn := true
	for _, b := range p {
		allGoOn = allGoOn && b >= 128 && b <= 254
	}
	if isLast && (allGoOn || isNumber && len(r.rest) < size+5) {
		return volume.Item{}, api.ErrTorn
	}
	if !isNumber || len(r.rest) != size+5 || !slices.Equal(summed(p[:len(p)-5]), p) {
		return volume.Item{}, api.ErrSum
	}
	return volume.Item{}, api.ErrForm
}

// cutUp returns what is ahead of the first byte 0, and the pieces.
func cutUp(b []byte) (head []byte, pieces [][]byte) {
	parts := [][]byte{{}}
	for _, x := range b {
		if x == 0 {
			parts = append(parts, []byte{})
			continue
		}
		parts[len(parts)-1] = append(parts[len(parts)-1], x)
	}
	return parts[0], parts[1:]
}

func wantReadOf(b []byte) (l []volume.Item, good int, e api.Errno) {
	if len(b) > maxFile {
		return nil, 0, api.ErrLong
	}
	head, pieces := cutUp(b)
	if string(head) != "RVF1" {
		return nil, 0, api.ErrForm
	}
	good = 4
	for i, p := range pieces {
		x, pieceE := wantPiece(p, i == len(pieces)-1)
		if pieceE != api.OK {
			e = pieceE
			break
		}
		l = append(l, x)
		good += 1 + len(p)
	}
	if len(l) > maxItems {
		return nil, 0, api.ErrMany
	}
	return l, good, e
}

func wantSalvageOf(b []byte) (l []volume.Item, lost int, e api.Errno) {
	if len(b) > maxFile {
		return nil, 0, api.ErrLong
	}
	_, pieces := cutUp(b)
	for i, p := range pieces {
		x, e := wantPiece(p, i == len(pieces)-1)
		if e != api.OK {
			lost++
			continue
		}
		l = append(l, x)
	}
	if len(l) > maxItems {
		return nil, 0, api.ErrMany
	}
	return l, lost, api.OK
}

func wantAppendOf(b []byte, x volume.Item) ([]byte, api.Errno) {
	l, good, e := wantReadOf(b)
	if e != api.OK && e != api.ErrTorn {
		return nil, e
	}
	if e := wantCheck(x); e != api.OK {
		return nil, e
	}
	if len(l) == maxItems {
		return nil, api.ErrFull
	}
	block := wantBlock(x)
	if good+len(block) > maxFile {
		return nil, api.ErrLong
	}
	return append(slices.Clone(b[:good]), block...), api.OK
}

func timeOf(x volume.Item) int { return x.Time + x.Sweep.Time }

func nameOf(x volume.Item) string { return x.Name + x.Sweep.Site.Name }

// isAhead reports whether an item comes ahead of another one in a file that is
// joined.
func isAhead(x, y volume.Item) bool {
	if timeOf(x) != timeOf(y) {
		return timeOf(x) < timeOf(y)
	}
	return string(wantBlock(x)) < string(wantBlock(y))
}

func wantJoinOf(a, b []byte) ([]byte, api.Errno) {
	one, _, e := wantReadOf(a)
	if e != api.OK {
		return nil, e
	}
	other, _, e := wantReadOf(b)
	if e != api.OK {
		return nil, e
	}
	var l []volume.Item
	for _, x := range append(one, other...) {
		at := 0
		for at < len(l) && isAhead(l[at], x) {
			at++
		}
		if at == len(l) || isAhead(x, l[at]) {
			l = slices.Insert(l, at, x)
		}
	}
	if len(l) > maxItems {
		return nil, api.ErrMany
	}
	joined := wantFile(l...)
	if len(joined) > maxFile {
		return nil, api.ErrLong
	}
	return joined, api.OK
}

func wantFindOf(b []byte, q volume.Query) ([]int, api.Errno) {
	if q.Kind < 0 || q.Kind > 3 {
		return nil, api.ErrArg
	}
	if q.From > q.To {
		return nil, api.ErrRange
	}
	l, _, e := wantReadOf(b)
	if e != api.OK {
		return nil, e
	}
	var found []int
	for i, x := range l {
		isKind := q.Kind == 0 || x.Kind == q.Kind
		isName := q.Name == "" || nameOf(x) == q.Name
		if isKind && isName && timeOf(x) >= q.From && timeOf(x) <= q.To {
			found = append(found, i)
		}
	}
	return found, api.OK
}
