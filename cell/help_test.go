package cell_test

import (
	"fmt"
	"math"
	"testing"

	"radome/api"
	"radome/cell"
)

const (
	maxTime  = 4294967296
	maxPower = 1073741824
	level    = 5 // of pictures
)

func span(lo, hi int) api.Span { return api.Span{Lo: lo, Hi: hi} }

func grid(wide, high int) api.Grid {
	return api.Grid{X: -300, Y: 70, Size: 1000, Wide: wide, High: high}
}

// fieldOf returns a field of one row.
func fieldOf(l ...api.Span) api.Field { return api.Field{Grid: grid(len(l), 1), Vals: l} }

// picture returns a field, row by row from the south: at the level 5 a # just
// is in, a ? just may be in, and a . just is not.
func picture(rows ...string) api.Field {
	f := api.Field{Grid: grid(len(rows[0]), len(rows))}
	for _, row := range rows {
		for _, c := range row {
			switch c {
			case '#':
				f.Vals = append(f.Vals, span(5, 5))
			case '?':
				f.Vals = append(f.Vals, span(4, 5))
			default:
				f.Vals = append(f.Vals, span(4, 4))
			}
		}
	}
	return f
}

// plain returns a field with the same span everywhere.
func plain(wide, high int, s api.Span) api.Field {
	f := api.Field{Grid: grid(wide, high), Vals: make([]api.Span, wide*high)}
	for i := range f.Vals {
		f.Vals[i] = s
	}
	return f
}

// board returns a field whose pixels are in like the fields of one color of a
// board, so that none of them are neighbors.
func board(wide, high, color int) api.Field {
	f := plain(wide, high, span(0, 4))
	for i := range f.Vals {
		if (i%wide+i/wide)%2 == color {
			f.Vals[i] = span(5, 9)
		}
	}
	return f
}

// copied returns a field that shares nothing with another one.
func copied(f api.Field) api.Field {
	f.Vals = append([]api.Span(nil), f.Vals...)
	return f
}

// badFields are some that are not valid, with their errors.
func badFields() map[string]struct {
	f api.Field
	e api.Errno
} {
	type bad = struct {
		f api.Field
		e api.Errno
	}
	changed := func(e api.Errno, change func(f *api.Field)) bad {
		f := plain(3, 2, span(1, 9))
		change(&f)
		return bad{f, e}
	}
	return map[string]bad{
		"no field":        {api.Field{}, api.ErrRange},
		"too far east":    changed(api.ErrRange, func(f *api.Field) { f.Grid.X = 1048577 }),
		"too far south":   changed(api.ErrRange, func(f *api.Field) { f.Grid.Y = -1048577 }),
		"no size":         changed(api.ErrRange, func(f *api.Field) { f.Grid.Size = 0 }),
		"too wide":        changed(api.ErrRange, func(f *api.Field) { f.Grid.Wide, f.Vals = 65, make([]api.Span, 130) }),
		"too high":        changed(api.ErrRange, func(f *api.Field) { f.Grid.High, f.Vals = 65, make([]api.Span, 195) }),
		"no rows":         changed(api.ErrRange, func(f *api.Field) { f.Grid.High, f.Vals = 0, nil }),
		"no spans":        changed(api.ErrShape, func(f *api.Field) { f.Vals = nil }),
		"a span too few":  changed(api.ErrShape, func(f *api.Field) { f.Vals = f.Vals[1:] }),
		"a span too many": changed(api.ErrShape, func(f *api.Field) { f.Vals = append(f.Vals, span(1, 1)) }),
		"Lo above Hi":     changed(api.ErrRange, func(f *api.Field) { f.Vals[5] = span(9, 8) }),
		"Lo below 0":      changed(api.ErrRange, func(f *api.Field) { f.Vals[0] = span(-1, 8) }),
		"Hi too great":    changed(api.ErrRange, func(f *api.Field) { f.Vals[2] = span(1, maxPower+1) }),
	}
}

// extremes are numbers that no argument may be spoiled by.
func extremes() []int {
	return []int{math.MinInt, math.MinInt + 1, -1 << 32, -1, 0, 1, 2, 8, 9, 48, 1 << 30, 1<<30 + 1, 1 << 32, 1<<32 + 1, math.MaxInt - 1, math.MaxInt}
}

// wantSame checks that two results are the same; nil lists and empty ones are.
func wantSame(t *testing.T, what string, got, want any) {
	t.Helper()
	if g, w := fmt.Sprintf("%+v", got), fmt.Sprintf("%+v", want); g != w {
		t.Errorf("%s: %s, want %s", what, g, w)
	}
}

func wantErr(t *testing.T, what string, got, want api.Errno) {
	t.Helper()
	if got != want {
		t.Errorf("%s: error %d, want %d", what, got, want)
	}
}

// wantRange checks that a number leads to no error exactly from the least one to
// the most.
func wantRange(t *testing.T, what string, least, most int, call func(n int) api.Errno) {
	t.Helper()
	for n, want := range map[int]api.Errno{
		least: api.OK, most: api.OK,
		least - 1: api.ErrRange, most + 1: api.ErrRange, math.MinInt: api.ErrRange, math.MaxInt: api.ErrRange,
	} {
		wantErr(t, fmt.Sprint(what, " ", n), call(n), want)
	}
}

func areas(t *testing.T, f api.Field, level int) []cell.Area {
	t.Helper()
	l, e := cell.Areas(f, level)
	wantErr(t, "Areas", e, api.OK)
	return l
}

func match(t *testing.T, a, b api.Field, level, reach int) []cell.Event {
	t.Helper()
	l, e := cell.Match(a, b, level, reach)
	wantErr(t, "Match", e, api.OK)
	return l
}

func moves(t *testing.T, a, b api.Field, level, reach, i, j int) []cell.Move {
	t.Helper()
	l, e := cell.Moves(a, b, level, reach, i, j)
	wantErr(t, "Moves", e, api.OK)
	return l
}

func joined(t *testing.T, f api.Field, level, p, q int) int {
	t.Helper()
	n, e := cell.Joined(f, level, p, q)
	wantErr(t, "Joined", e, api.OK)
	return n
}

func gap(t *testing.T, f api.Field, level, p, q int) int {
	t.Helper()
	n, e := cell.Gap(f, level, p, q)
	wantErr(t, "Gap", e, api.OK)
	return n
}

func newBook(t *testing.T, g api.Grid, level, reach int) *cell.Book {
	t.Helper()
	b, e := cell.NewBook(g, level, reach)
	if e != api.OK || b == nil {
		t.Fatalf("NewBook: %v %d", b, e)
	}
	return b
}

// bookOf returns a book with some maps, at the times 10, 20 and so on.
func bookOf(t *testing.T, level, reach int, maps ...api.Field) *cell.Book {
	t.Helper()
	b := newBook(t, maps[0].Grid, level, reach)
	for i, f := range maps {
		if _, e := b.Add(10+10*i, f); e != api.OK {
			t.Fatalf("the map %d: error %d", i, e)
		}
	}
	return b
}

// answers returns those of all methods that only ask.
func answers(b *cell.Book) string {
	s := fmt.Sprintf("%+v %+v", b.Tally(), b.Tracks())
	for number := -1; number <= b.Tally().Maps; number++ {
		for area := -1; ; area++ {
			track, e := b.Of(number, area)
			s += fmt.Sprint(" of ", number, area, ":", track, e)
			if area >= 0 && e != api.OK {
				break
			}
		}
	}
	for track := -1; track <= b.Tally().Tracks; track++ {
		past, e := b.Past(track)
		future, _ := b.Future(track)
		steps, _ := b.Steps(track)
		s += fmt.Sprintf(" %d: %v %v %v %d", track, past, future, steps, e)
	}
	return s
}

// noise yields numbers that look like random ones, and are always the same.
type noise struct{ state uint64 }

func (n *noise) upTo(most int) int {
	n.state = n.state*6364136223846793005 + 1442695040888963407
	return int(n.state>>33) % (most + 1)
}

func (n *noise) of(l ...int) int { return l[n.upTo(len(l)-1)] }

// grid returns a small one; some are one row or one column.
func (n *noise) grid(most int) api.Grid {
	switch n.upTo(9) {
	case 0:
		return grid(1+n.upTo(most-1), 1)
	case 1:
		return grid(1, 1+n.upTo(most-1))
	}
	return grid(1+n.upTo(most-1), 1+n.upTo(most-1))
}

// field returns one with values from 0 to 9; of some there are more than of
// others.
func (n *noise) field(g api.Grid) api.Field {
	f := api.Field{Grid: g, Vals: make([]api.Span, g.Wide*g.High)}
	open, high := n.upTo(9), n.upTo(9)
	for i := range f.Vals {
		lo := n.upTo(4)
		if n.upTo(9) < high {
			lo += 5
		}
		f.Vals[i] = span(lo, lo)
		if n.upTo(9) < open {
			f.Vals[i].Hi += n.upTo(9 - lo)
		}
	}
	return f
}

// narrower returns a field whose spans lie within those of another one.
func (n *noise) narrower(f api.Field) api.Field {
	f = copied(f)
	for i, s := range f.Vals {
		lo := s.Lo + n.upTo(s.Hi-s.Lo)*n.upTo(1)
		f.Vals[i] = span(lo, lo+n.upTo(s.Hi-lo))
	}
	return f
}

// truth returns values of the pixels of a field, often at the ends of spans.
func (n *noise) truth(f api.Field) []int {
	l := make([]int, len(f.Vals))
	for i, s := range f.Vals {
		l[i] = n.of(s.Lo, s.Hi, s.Lo+n.upTo(s.Hi-s.Lo))
	}
	return l
}

// block is a rectangle of pixels.
type block struct{ x, y, wide, high int }

// maps returns some of a grid, with blocks that move, begin and end.
func (n *noise) maps(g api.Grid, count int) []api.Field {
	var l []api.Field
	var blocks []block
	for range count {
		for len(blocks) < 2 || n.upTo(4) == 0 {
			blocks = append(blocks, block{n.upTo(g.Wide - 1), n.upTo(g.High - 1), 1 + n.upTo(2), 1 + n.upTo(2)})
		}
		if n.upTo(4) == 0 {
			i := n.upTo(len(blocks) - 1)
			blocks = append(blocks[:i], blocks[i+1:]...)
		}
		f := plain(g.Wide, g.High, span(0, 4))
		for i := range blocks {
			b := &blocks[i]
			b.x += n.of(-1, 0, 0, 0, 1)
			b.y += n.of(-1, 0, 0, 0, 1)
			n.paint(f, *b)
		}
		l = append(l, f)
	}
	return l
}

// paint draws a block; some of its pixels only may be in.
func (n *noise) paint(f api.Field, b block) {
	for y := max(b.y, 0); y < min(b.y+b.high, f.Grid.High); y++ {
		for x := max(b.x, 0); x < min(b.x+b.wide, f.Grid.Wide); x++ {
			f.Vals[y*f.Grid.Wide+x] = span(n.of(5, 6, 0), 5+n.upTo(4)+1)
		}
	}
}
