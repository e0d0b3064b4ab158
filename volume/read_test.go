package volume_test

import (
	"fmt"
	"slices"
	"strings"
	"testing"

	"radome/api"
	"radome/volume"
)

// P12.2: bytes that do not begin with the letters, or have no byte 0 behind them.
func TestReadLetters(t *testing.T) {
	block := wantBlock(noteN())
	for _, letters := range []string{"", "R", "RV", "RVF", "RVF1 ", "RVF1\x01", "RVF11", "RVF2", "rvf1", "RDM1", " RVF1", "\x00RVF1", "RVF1RVF1", "RVF\x00", "RVF1\xff"} {
		wantRead(t, fmt.Sprintf("%q", letters), []byte(letters), nil, 0, api.ErrForm)
		wantRead(t, fmt.Sprintf("%q and a block", letters), append([]byte(letters), block...), nil, 0, api.ErrForm)
		wantErr(t, fmt.Sprintf("%q", letters), wantAll(t, letters, append([]byte(letters), block...)), api.ErrForm)
		b, e := volume.Append([]byte(letters), volume.Item{})
		wantBytes(t, fmt.Sprintf("Append to %q", letters), b, e, nil, api.ErrForm)
	}
	wantRead(t, "nil", nil, nil, 0, api.ErrForm)
	wantRead(t, "a block", block, nil, 0, api.ErrForm)
	wantRead(t, "letters", []byte("RVF1"), nil, 4, api.OK)
	wantRead(t, "letters and a block", append([]byte("RVF1"), block...), []volume.Item{noteN()}, 4+len(block), api.OK)
}

// oddPiece is one that is not whole; which error it has as the last one, and inside
// of a file.
type oddPiece struct {
	what         string
	bytes        []byte
	last, inside api.Errno
}

func oddPieces() []oddPiece {
	whole := wantBlock(noteN())[1:]
	body := wantBody(noteN())
	size, rest := whole[:1], whole[1:]
	great := func(count int, last ...byte) []byte { return append(slices.Repeat([]byte{254}, count), last...) }
	return []oddPiece{
		{"nothing", nil, api.ErrTorn, api.ErrSum},
		{"a digit", []byte{128}, api.ErrTorn, api.ErrSum},
		{"a digit, as great as can be", []byte{254}, api.ErrTorn, api.ErrSum},
		{"7 digits", great(7), api.ErrTorn, api.ErrSum},
		{"8 digits without an end", great(8), api.ErrTorn, api.ErrSum},
		{"100 digits without an end", great(100), api.ErrTorn, api.ErrSum},
		{"a byte 255", []byte{255}, api.ErrSum, api.ErrSum},
		{"a byte 255 behind digits", []byte{128, 200, 255}, api.ErrSum, api.ErrSum},
		{"a byte 255 between digits", []byte{128, 255, 200}, api.ErrSum, api.ErrSum},
		{"the number 0", []byte{1}, api.ErrTorn, api.ErrSum},
		{"the number 0 and 4 bytes", []byte{1, 1, 1, 1, 1}, api.ErrTorn, api.ErrSum},
		{"the number 0 and 5 bytes", []byte{1, 1, 1, 1, 1, 1}, api.ErrSum, api.ErrSum},
		{"the number 0 and its sum", summed([]byte{1}), api.ErrForm, api.ErrForm},
		{"the greatest number", great(7, 127), api.ErrTorn, api.ErrSum},
		{"the greatest number and bytes", great(7, 127, 4, 6, 2, 97), api.ErrTorn, api.ErrSum},
		{"a number of 9 digits", great(8, 2), api.ErrSum, api.ErrSum},
		{"a number of 9 digits that ends with 0", slices.Concat([]byte{132, 128, 128, 128, 128, 128, 128, 128, 1}, rest), api.ErrSum, api.ErrSum},
		{"a number of 10 digits", great(9, 127), api.ErrSum, api.ErrSum},
		{"a number of 20 digits", great(19, 127), api.ErrSum, api.ErrSum},
		{"a number with a digit more than needed", slices.Concat([]byte{131, 1}, rest), api.ErrSum, api.ErrSum},
		{"such a number, and the sum of it", summed(slices.Concat([]byte{131, 1}, body)), api.ErrSum, api.ErrSum},
		{"such a number, and too few bytes", []byte{131, 1, 4, 6}, api.ErrSum, api.ErrSum},
		{"0 with two digits", []byte{128, 1}, api.ErrSum, api.ErrSum},
		{"a piece without its last byte", whole[:len(whole)-1], api.ErrTorn, api.ErrSum},
		{"a piece without its sum", whole[:len(whole)-5], api.ErrTorn, api.ErrSum},
		{"a piece with a byte more", append(whole[:len(whole):len(whole)], 1), api.ErrSum, api.ErrSum},
		{"a piece with a digit more", append(whole[:len(whole):len(whole)], 128), api.ErrSum, api.ErrSum},
		{"a piece twice", append(whole[:len(whole):len(whole)], whole...), api.ErrSum, api.ErrSum},
		{"a number that is one less", slices.Concat([]byte{size[0] - 1}, rest), api.ErrSum, api.ErrSum},
		{"a number that is one more", slices.Concat([]byte{size[0] + 1}, rest), api.ErrTorn, api.ErrSum},
		{"a number that is one less, and the sum of it", summed(slices.Concat([]byte{size[0] - 1}, body)), api.ErrSum, api.ErrSum},
		{"a number that is one more, and the sum of it", summed(slices.Concat([]byte{size[0] + 1}, body)), api.ErrTorn, api.ErrSum},
		{"a byte more ahead of the sum", summed(slices.Concat(size, body, []byte{7})), api.ErrSum, api.ErrSum},
		{"the sum of the bytes without the number", slices.Concat(size, summed(body)), api.ErrSum, api.ErrSum},
		{"a sum that is one more", append(whole[:len(whole)-5:len(whole)-5], 184, 135, 165, 144, 1), api.ErrSum, api.ErrSum},
		{"a sum that is 2^31 - 1 more", append(whole[:len(whole)-5:len(whole)-5], marked(digits(33371845+2147483647, 5))...), api.ErrSum, api.ErrSum},
		{"a sum with as few digits as possible", append(whole[:len(whole)-5:len(whole)-5], number(33371845)...), api.ErrTorn, api.ErrSum},
		{"a sum whose last digit goes on", append(whole[:len(whole)-1:len(whole)-1], 128), api.ErrSum, api.ErrSum},
		{"a sum of 255s", append(whole[:len(whole)-5:len(whole)-5], 255, 255, 255, 255, 255), api.ErrSum, api.ErrSum},
		{"the kind 0", pieceOf(number(0, 5, 1, 100)), api.ErrForm, api.ErrForm},
		{"the kind 4", pieceOf(number(4, 5, 1, 100)), api.ErrForm, api.ErrForm},
		{"the kind 130", pieceOf(number(130, 5, 1, 100)), api.ErrForm, api.ErrForm},
		{"a note, and no time", pieceOf(number(3)), api.ErrForm, api.ErrForm},
		{"a note with a byte more", pieceOf(append(body[:len(body):len(body)], 1)), api.ErrForm, api.ErrForm},
		{"a note whose text is cut off", pieceOf(body[:len(body)-1]), api.ErrForm, api.ErrForm},
		{"a note with another byte", pieceOf(slices.Concat(number(3, 5), text("\n"))), api.ErrForm, api.ErrForm},
		{"a note with too long a text", pieceOf(slices.Concat(number(3, 5), text(strings.Repeat("a", 201)))), api.ErrForm, api.ErrForm},
		{"a note with too great a time", pieceOf(slices.Concat(number(3, maxTime+1), text("a"))), api.ErrForm, api.ErrForm},
		{"a text of a huge number of bytes", pieceOf(append(number(3, 5), great(7, 127, 'a')...)), api.ErrForm, api.ErrForm},
		{"a body of 255s", pieceOf(slices.Repeat([]byte{255}, 10)), api.ErrForm, api.ErrForm},
	}
}

// P12.2, P12.3: pieces that are torn, or neither whole nor torn, at each place of a
// file; the first one that is not whole decides.
func TestReadOddPieces(t *testing.T) {
	l := few()[:3]
	for _, x := range oddPieces() {
		for at := range len(l) + 1 {
			var pieces [][]byte
			for _, item := range l {
				pieces = append(pieces, wantBlock(item)[1:])
			}
			pieces = slices.Insert(pieces, at, x.bytes)
			b := fileOf(pieces...)
			want := x.inside
			if at == len(l) {
				want = x.last
			}
			what := fmt.Sprintf("%s at the place %d", x.what, at)
			wantRead(t, what, b, l[:at], len(wantFile(l[:at]...)), want)
			wantErr(t, what, wantAll(t, what, b), want)
			wantSalvage(t, what, b, l, 1, api.OK)
			for _, y := range oddPieces() {
				wantAll(t, what+", and at the end "+y.what, append(append(b[:len(b):len(b)], 0), y.bytes...))
			}
		}
	}
}

// P12.2: a body with each of its bytes changed, left out, or with another one ahead
// of it, in a piece with the right number and sum.
func TestReadChangedBodies(t *testing.T) {
	whole, others := 0, 0
	for _, x := range few() {
		body := wantBody(x)
		for at := range len(body) + 1 {
			var bodies [][]byte
			for c := range 255 {
				bodies = append(bodies, slices.Insert(slices.Clone(body), at, byte(c+1)))
				if at < len(body) {
					changed := slices.Clone(body)
					changed[at] = byte(c + 1)
					bodies = append(bodies, changed)
				}
			}
			if at < len(body) {
				bodies = append(bodies, slices.Delete(slices.Clone(body), at, at+1), body[:at])
			}
			for _, changed := range bodies {
				b := fileOf(pieceOf(changed))
				l, good, e := wantReadOf(b)
				wantRead(t, fmt.Sprint("the body ", changed), b, l, good, e)
				if e == api.OK {
					whole++
				} else {
					wantErr(t, fmt.Sprint("the body ", changed), e, api.ErrForm)
					others++
				}
			}
		}
	}
	if whole < 2000 || others < 10000 {
		t.Errorf("%d bodies of items, and %d others", whole, others)
	}
}

// P12.2: numbers in a body with more digits than they need, with too many, and too
// great ones, at each place.
func TestReadLongNumbers(t *testing.T) {
	for _, x := range few() {
		body := wantBody(x)
		for at, c := range body {
			if c >= 128 {
				continue
			}
			for more := range 12 {
				for _, last := range []byte{1, 2, 127} {
					long := slices.Concat([]byte{c + 127}, slices.Repeat([]byte{128}, more), []byte{last})
					changed := slices.Concat(body[:at], long, body[at+1:])
					b := fileOf(pieceOf(changed))
					l, good, e := wantReadOf(b)
					wantRead(t, fmt.Sprint("the body ", changed), b, l, good, e)
					if last == 1 && c != 'a' && c != 's' && c != 'w' && c != 'f' && c != 'i' {
						wantErr(t, fmt.Sprint("the body ", changed), e, api.ErrForm)
					}
				}
			}
		}
	}
}

// P12.2: lists that are not written as stated.
func TestReadLists(t *testing.T) {
	head := slices.Concat(number(2), text("f"), number(0), integer(0), integer(0), number(1, 4, 1))
	zero, one, two := spanBytes(pt(0)), spanBytes(pt(1)), spanBytes(pt(2))
	n := func(count int) []byte { return number(count) }
	for _, x := range []struct {
		what string
		list [][]byte
		want api.Errno
	}{
		{"all equal to the one ahead", [][]byte{n(4)}, api.OK},
		{"all equal", [][]byte{n(0), one, n(3)}, api.OK},
		{"all different", [][]byte{n(0), one, n(0), two, n(0), one, n(0), zero}, api.OK},
		{"a number at the end", [][]byte{n(1), one, n(0), two, n(1)}, api.OK},
		{"a thing at the end", [][]byte{n(3), one}, api.OK},
		{"nothing", nil, api.ErrForm},
		{"too few", [][]byte{n(3)}, api.ErrForm},
		{"too few, and 0", [][]byte{n(3), n(0)}, api.ErrForm},
		{"too many", [][]byte{n(5)}, api.ErrForm},
		{"many more", [][]byte{n(127*127*127*127*127*127*127*127 - 1)}, api.ErrForm},
		{"too many behind a thing", [][]byte{n(0), one, n(4)}, api.ErrForm},
		{"the one ahead as a thing", [][]byte{n(0), zero, n(3)}, api.ErrForm},
		{"the one ahead as a thing behind itself", [][]byte{n(1), zero, n(2)}, api.ErrForm},
		{"a thing again", [][]byte{n(0), one, n(0), one, n(2)}, api.ErrForm},
		{"a thing again behind equal ones", [][]byte{n(0), one, n(1), one, n(1)}, api.ErrForm},
		{"the last thing again", [][]byte{n(2), one, n(0), one}, api.ErrForm},
		{"0 at the end", [][]byte{n(3), one, n(0)}, api.ErrForm},
		{"0 at the end of equal ones", [][]byte{n(4), n(0)}, api.ErrForm},
		{"a thing more", [][]byte{n(4), one}, api.ErrForm},
		{"a thing more behind 0", [][]byte{n(3), one, n(0), two}, api.ErrForm},
		{"without the number 0", [][]byte{n(0), one, two, n(2)}, api.ErrForm},
		{"a thing that is cut off", [][]byte{n(3), one[:1]}, api.ErrForm},
		{"too great a span", [][]byte{n(3), spanBytes(pt(maxPower + 1))}, api.ErrForm},
		{"a span as great as can be", [][]byte{n(3), spanBytes(span(0, maxPower))}, api.OK},
		{"a span that is too wide", [][]byte{n(3), spanBytes(span(1, maxPower+1))}, api.ErrForm},
		{"a span below 0", [][]byte{n(3), spanBytes(span(-1, 0))}, api.ErrForm},
		{"a huge span", [][]byte{n(3), integer(127*127*127*127*127*127*127*60 - 1), n(127*127*127*127*127*127*127*127 - 1)}, api.ErrForm},
		{"a huge span below 0", [][]byte{n(3), integer(-127 * 127 * 127 * 127 * 127 * 127 * 127 * 60), n(127*127*127*127*127*127*127*60 + 1)}, api.ErrForm},
	} {
		b := fileOf(pieceOf(slices.Concat(head, slices.Concat(x.list...))))
		_, good, e := volume.Read(b)
		wantSame(t, "Read, "+x.what, []int{good, int(e)}, []int{map[bool]int{true: len(b), false: 4}[x.want == api.OK], int(x.want)})
		wantErr(t, x.what, wantAll(t, x.what, b), x.want)
	}
}

// P12.2: what no sweep and no field has, but bytes of a body can say.
func TestReadInvalidItems(t *testing.T) {
	sweeps := map[string]func(s *api.Sweep){
		"a name": func(s *api.Sweep) { s.Site.Name = "A" }, "no name": func(s *api.Sweep) { s.Site.Name = "" }, "a long name": func(s *api.Sweep) { s.Site.Name = strings.Repeat("a", 13) },
		"X": func(s *api.Sweep) { s.Site.X = 1048577 }, "Y": func(s *api.Sweep) { s.Site.Y = -1048577 }, "Z": func(s *api.Sweep) { s.Site.Z = 20001 },
		"no rose": func(s *api.Sweep) { s.Site.Rose, s.Rays = 0, nil }, "Rose": func(s *api.Sweep) { s.Site.Rose, s.Rays = 91, slices.Repeat(s.Rays, 91) },
		"no gates": func(s *api.Sweep) { s.Site.Gates, s.Rays = 0, make([][]api.Echo, 4) }, "Gates": func(s *api.Sweep) { s.Site.Gates = 201; s.Rays = slices.Repeat([][]api.Echo{make([]api.Echo, 201)}, 4) },
		"Step": func(s *api.Sweep) { s.Site.Step = 2001 }, "Width": func(s *api.Sweep) { s.Site.Width = 9 }, "Tilt": func(s *api.Sweep) { s.Tilt = 257 }, "Time": func(s *api.Sweep) { s.Time = maxTime + 1 },
		"the power of silence":       func(s *api.Sweep) { s.Rays[0][0] = quiet(maxPower + 1) },
		"no kind":                    func(s *api.Sweep) { s.Rays[0][0] = api.Echo{Kind: 0, Power: pt(5)} },
		"another kind":               func(s *api.Sweep) { s.Rays[3][0] = api.Echo{Kind: 4, Power: pt(5)} },
		"a mixed echo without power": func(s *api.Sweep) { s.Rays[1][0] = api.Echo{Kind: api.Mixed, Power: span(0, 5)} },
		"a clear echo without power": func(s *api.Sweep) { s.Rays[1][0] = api.Echo{Kind: api.Clear} },
		"Ratio":                      func(s *api.Sweep) { s.Rays[2][0].Ratio.Hi = 1000001 },
		"Match":                      func(s *api.Sweep) { s.Rays[2][0].Match.Hi = 1001 },
		"Spread":                     func(s *api.Sweep) { s.Rays[2][0].Spread = 65536 },
		"Steps":                      func(s *api.Sweep) { s.Rays[3][0].Steps[0] = pt(32768) },
		"Steps of Second":            func(s *api.Sweep) { s.Rays[3][0].Steps[1] = span(0, 65536) },
		"Turn":                       func(s *api.Sweep) { s.Rays[3][0].Turn = pt(-32769) },
	}
	for what, change := range sweeps {
		x := sweepS()
		change(&x.Sweep)
		wantInvalid(t, "a sweep, "+what, x)
	}
	fields := map[string]func(x *volume.Item){
		"a name": func(x *volume.Item) { x.Name = "a b" }, "no name": func(x *volume.Item) { x.Name = "" }, "a long name": func(x *volume.Item) { x.Name = strings.Repeat("a", 13) },
		"Time": func(x *volume.Item) { x.Time = maxTime + 1 }, "X": func(x *volume.Item) { x.Field.Grid.X = -1048577 }, "Y": func(x *volume.Item) { x.Field.Grid.Y = 1048577 },
		"no size": func(x *volume.Item) { x.Field.Grid.Size = 0 }, "Size": func(x *volume.Item) { x.Field.Grid.Size = 10001 },
		"not wide": func(x *volume.Item) { x.Field.Grid.Wide, x.Field.Vals = 0, nil }, "Wide": func(x *volume.Item) { x.Field.Grid.Wide = 65; x.Field.Vals = make([]api.Span, 65) },
		"not high": func(x *volume.Item) { x.Field.Grid.High, x.Field.Vals = 0, nil }, "High": func(x *volume.Item) { x.Field.Grid.High = 65; x.Field.Vals = make([]api.Span, 65) },
		"a value": func(x *volume.Item) { x.Field.Vals[0].Hi = maxPower + 1 }, "a value below 0": func(x *volume.Item) { x.Field.Vals[0].Lo = -1 },
	}
	for what, change := range fields {
		x := fieldF()
		change(&x)
		wantInvalid(t, "a field, "+what, x)
	}
	for _, x := range []volume.Item{noteOf(maxTime+1, ""), noteOf(127*127*127*127*127*127*127*127-1, "a"), noteOf(0, "\x7f"), noteOf(0, "\x1f"), noteOf(0, strings.Repeat("a", 201))} {
		wantInvalid(t, "a note", x)
	}
}

// wantInvalid checks that an item is not valid, nor its block that of an item.
func wantInvalid(t *testing.T, what string, x volume.Item) {
	t.Helper()
	if volume.Check(x) == api.OK {
		t.Errorf("Check, %s: no error", what)
	}
	b := slices.Concat(wantFile(noteN()), wantBlock(x), wantBlock(noteN()))
	wantRead(t, what, b, []volume.Item{noteN()}, len(wantFile(noteN())), api.ErrForm)
	wantSalvage(t, what, b, []volume.Item{noteN(), noteN()}, 1, api.OK)
}

// P12.2 to P12.4: files with 1000 and 1001 items, also with a piece at the end that
// is not whole.
func TestReadMany(t *testing.T) {
	l := notes(maxItems + 1)
	most, more := wantFile(l[:maxItems]...), wantFile(l...)
	wantRead(t, "1000 items", most, l[:maxItems], len(most), api.OK)
	wantRead(t, "1001 items", more, nil, 0, api.ErrMany)
	wantSalvage(t, "1000 items", most, l[:maxItems], 0, api.OK)
	wantSalvage(t, "1001 items", more, nil, 0, api.ErrMany)
	b, e := volume.Append(most, noteN())
	wantBytes(t, "Append to 1000 items", b, e, nil, api.ErrFull)
	b, e = volume.Append(most, volume.Item{})
	wantBytes(t, "Append of no item to 1000 items", b, e, nil, api.ErrArg)
	b, e = volume.Append(more, volume.Item{})
	wantBytes(t, "Append to 1001 items", b, e, nil, api.ErrMany)
	b, e = volume.Append(wantFile(l[:maxItems-1]...), l[maxItems-1])
	wantBytes(t, "Append to 999 items", b, e, most, api.OK)
	for _, x := range oddPieces() {
		end := append([]byte{0}, x.bytes...)
		wantRead(t, "1000 items, and "+x.what, slices.Concat(most, end), l[:maxItems], len(most), x.last)
		wantRead(t, "1001 items, and "+x.what, slices.Concat(more, end), nil, 0, api.ErrMany)
		wantSalvage(t, "1000 items, and "+x.what, slices.Concat(most, end), l[:maxItems], 1, api.OK)
		wantSalvage(t, "1001 items, and "+x.what, slices.Concat(more, end), nil, 0, api.ErrMany)
		inside := slices.Concat(wantFile(l[:5]...), end, more[4:])
		wantRead(t, "5 items, "+x.what+", and 1001 items", inside, l[:5], len(wantFile(l[:5]...)), x.inside)
		wantSalvage(t, "5 items, "+x.what+", and 1001 items", inside, nil, 0, api.ErrMany)
		for file, want := range map[string]api.Errno{string(most): api.ErrFull, string(more): api.ErrMany} {
			if x.last != api.ErrTorn && want == api.ErrFull {
				want = x.last
			}
			b, e := volume.Append(slices.Concat([]byte(file), end), noteN())
			wantBytes(t, "Append behind many items, and "+x.what, b, e, nil, want)
		}
	}
	found, e := volume.Find(more, volume.Query{To: maxTime})
	wantSame(t, "Find", fmt.Sprint(found, e), fmt.Sprint([]int{}, api.ErrMany))
	b, e = volume.Join(more, nil)
	wantBytes(t, "Join", b, e, nil, api.ErrMany)
}

// P12.2 to P12.4: sweeps that have some thousand times as many bytes in memory as in
// a file; what does not return them does not need this memory.
func TestQuietSweeps(t *testing.T) {
	var pieces [][]byte
	for i := range maxItems + 1 {
		head := slices.Concat(number(1), text("s"), integer(0), integer(0), number(0, 90, 200, 1000, 0, 0, i))
		pieces = append(pieces, pieceOf(append(head, number(72000)...)))
	}
	most, more := fileOf(pieces[:maxItems]...), fileOf(pieces...)
	wantRead(t, "1001 sweeps", more, nil, 0, api.ErrMany)
	wantSalvage(t, "1001 sweeps", more, nil, 0, api.ErrMany)
	b, e := volume.Append(most, noteN())
	wantBytes(t, "Append", b, e, nil, api.ErrFull)
	b, e = volume.Join(most, fileOf(pieces[3]))
	wantBytes(t, "Join", b, e, most, api.OK)
	found, e := volume.Find(most, volume.Query{Kind: volume.Sweep, Name: "s", From: 998, To: 5000})
	wantSame(t, "Find", fmt.Sprint(found, e), fmt.Sprint([]int{998, 999}, api.OK))
	l, good, e := volume.Read(fileOf(pieces[7]))
	wantErr(t, "Read", e, api.OK)
	if good != 5+len(pieces[7]) || len(l) != 1 || len(l[0].Sweep.Rays) != 360 || volume.Check(l[0]) != api.OK {
		t.Errorf("Read of a sweep: %d items, %d bytes", len(l), good)
	}
	wrong := []byte{0}
	for range 20000 { // with a byte too many, so not one of them is whole
		wrong = append(append(wrong, pieceOf(slices.Concat(number(1), text("s"), integer(0), integer(0), number(0, 90, 200, 1000, 0, 0, 0, 72000, 0)))...), 0)
	}
	wantSalvage(t, "sweeps with a byte too many", wrong, nil, 20001, api.OK)
}
