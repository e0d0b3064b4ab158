package cell_test

import (
	"fmt"
	"math"
	"slices"
	"testing"

	"radome/api"
	"radome/cell"
)

// noBooks are books that no function of the package made.
func noBooks() []*cell.Book { return []*cell.Book{nil, {}, new(cell.Book)} }

// R3: books that are nil, or not made by NewBook: ErrNil ahead of all other
// errors, and zero values.
func TestNoBook(t *testing.T) {
	for _, b := range noBooks() {
		for _, f := range []api.Field{{}, picture("#.")} {
			for _, n := range extremes() {
				if l, e := b.Add(n, f); l != nil || e != api.ErrNil {
					t.Errorf("Add: %v %d", l, e)
				}
			}
		}
		for _, n := range extremes() {
			track, e := b.Of(n, n)
			past, e1 := b.Past(n)
			future, e2 := b.Future(n)
			steps, e3 := b.Steps(n)
			wantSame(t, "the errors", []api.Errno{e, e1, e2, e3}, slices.Repeat([]api.Errno{api.ErrNil}, 4))
			if track != 0 || past != nil || future != nil || steps != nil {
				t.Errorf("%d %v %v %v of no book", track, past, future, steps)
			}
		}
		if b.Tracks() != nil || b.Tally() != (cell.Tally{}) || b.Copy() != nil {
			t.Errorf("of no book: %v, %v, %v", b.Tracks(), b.Tally(), b.Copy())
		}
	}
}

// P8.4: which error of NewBook comes first, and a book without maps.
func TestNewBook(t *testing.T) {
	g := grid(3, 2)
	for what, change := range map[string]func(g *api.Grid){
		"no columns": func(g *api.Grid) { g.Wide = 0 }, "too wide": func(g *api.Grid) { g.Wide = 65 }, "too high": func(g *api.Grid) { g.High = 65 },
		"no rows": func(g *api.Grid) { g.High = -1 }, "size": func(g *api.Grid) { g.Size = 10001 }, "east": func(g *api.Grid) { g.X = math.MinInt },
	} {
		bad := g
		change(&bad)
		if b, e := cell.NewBook(bad, 5, 1); b != nil || e != api.ErrRange {
			t.Errorf("NewBook, %s: %v %d", what, b, e)
		}
	}
	for _, n := range extremes() {
		for _, m := range extremes() {
			want := api.ErrRange
			if 1 <= n && n <= maxPower && 0 <= m && m <= 8 {
				want = api.OK
			}
			if b, e := cell.NewBook(g, n, m); e != want || (b != nil) != (want == api.OK) {
				t.Errorf("NewBook with %d and %d: %v %d, want %d", n, m, b, e, want)
			}
		}
	}
	wantRange(t, "the level", 1, maxPower, func(n int) api.Errno { _, e := cell.NewBook(g, n, 8); return e })
	wantRange(t, "the reach", 0, 8, func(n int) api.Errno { _, e := cell.NewBook(g, 1, n); return e })
	for _, b := range []*cell.Book{newBook(t, g, 5, 1), newBook(t, grid(64, 64), 1, 8), newBook(t, grid(1, 1), maxPower, 0)} {
		if b.Tally() != (cell.Tally{}) || len(b.Tracks()) != 0 {
			t.Errorf("a book without maps: %v %v", b.Tally(), b.Tracks())
		}
		_, e := b.Of(0, 0)
		wantErr(t, "Of", e, api.ErrNone)
		_, e = b.Past(0)
		wantErr(t, "Past", e, api.ErrNone)
		_, e = b.Future(0)
		wantErr(t, "Future", e, api.ErrNone)
		_, e = b.Steps(0)
		wantErr(t, "Steps", e, api.ErrNone)
	}
}

// wantAdd checks what Add returns.
func wantAdd(t *testing.T, what string, b *cell.Book, time int, f api.Field, want []cell.Event, wantE api.Errno) {
	t.Helper()
	before := answers(b)
	l, e := b.Add(time, f)
	wantErr(t, what, e, wantE)
	wantSame(t, what, l, want)
	if e != api.OK && (l != nil || answers(b) != before) {
		t.Errorf("%s: an error changed something, or %v", what, l)
	}
}

// P8.4: maps of other grids, and at times that are not later, or none; and which
// error comes first.
func TestAddErrors(t *testing.T) {
	f, other := picture("#.#"), picture("#.#.")
	b := newBook(t, f.Grid, level, 1)
	for range 2 { // without maps, and with one
		for what, bad := range badFields() {
			wantAdd(t, what, b, -1, bad.f, nil, bad.e)
			wantAdd(t, what, b, 100, bad.f, nil, bad.e)
		}
		wantAdd(t, "another grid", b, -1, other, nil, api.ErrShape)
		wantAdd(t, "another grid", b, 100, other, nil, api.ErrShape)
		for _, change := range []func(g *api.Grid){
			func(g *api.Grid) { g.X++ }, func(g *api.Grid) { g.Y++ }, func(g *api.Grid) { g.Size-- }, func(g *api.Grid) { g.Wide, g.High = 1, 3 },
		} {
			moved := f
			change(&moved.Grid)
			wantAdd(t, "a grid elsewhere", b, 100, moved, nil, api.ErrShape)
		}
		for _, time := range []int{-1, math.MinInt, maxTime + 1, math.MaxInt} {
			wantAdd(t, "no time", b, time, f, nil, api.ErrRange)
		}
		b.Add(50, f)
	}
	for _, time := range []int{0, 1, 49, 50} {
		wantAdd(t, "too late", b, time, f, nil, api.ErrLate)
	}
	kept := []cell.Event{{Kind: cell.Kept, From: []int{0}, To: []int{0}}, {Kind: cell.Kept, From: []int{1}, To: []int{1}}}
	wantAdd(t, "one second later", b, 51, f, kept, api.OK)
	wantAdd(t, "the last time", b, maxTime, f, kept, api.OK)
	wantAdd(t, "the last time again", b, maxTime, f, nil, api.ErrLate)
	wantAdd(t, "behind it", b, maxTime+1, f, nil, api.ErrRange)
	wantSame(t, "the number of maps", b.Tally().Maps, 3)
	first := newBook(t, f.Grid, level, 1)
	wantAdd(t, "the first time", first, 0, f, nil, api.OK)
	wantAdd(t, "the first time again", first, 0, f, nil, api.ErrLate)
	wantAdd(t, "the time 1", first, 1, f, kept, api.OK)
	last := newBook(t, f.Grid, level, 1)
	wantAdd(t, "only the last time", last, maxTime, f, nil, api.OK)
	wantAdd(t, "an earlier one", last, 0, f, nil, api.ErrLate)
}

// P8.4: a book that is full has no room, whatever it is.
func TestFullBook(t *testing.T) {
	f := picture("#.#")
	b := newBook(t, f.Grid, level, 1)
	for i := range 48 {
		_, e := b.Add(10*i, f)
		wantErr(t, fmt.Sprint("the map ", i), e, api.OK)
	}
	same := b.Copy()
	for _, x := range []*cell.Book{b, same} {
		wantAdd(t, "one more", x, 1000, f, nil, api.ErrFull)
		wantAdd(t, "one more without areas", x, 1000, picture("..."), nil, api.ErrFull)
		wantAdd(t, "one more that is late", x, 470, f, nil, api.ErrLate)
		wantAdd(t, "one more at no time", x, -1, f, nil, api.ErrRange)
		wantAdd(t, "one more of another grid", x, -1, picture("#"), nil, api.ErrShape)
		wantAdd(t, "one more that is none", x, -1, api.Field{}, nil, api.ErrRange)
		wantSame(t, "Tally", x.Tally(), cell.Tally{Maps: 48, Areas: 96, Tracks: 2, Kept: 94})
	}
}

// P8.4, P8.11: the events that Add returns are those of Match, with the level and
// the reach of the book.
func TestAddedEvents(t *testing.T) {
	for seed := range 60 {
		n := &noise{state: uint64(11000 + seed)}
		g, reach, at := n.grid(10), n.of(0, 1, 2, 8), n.of(level, level, 1, 7)
		b, before := newBook(t, g, at, reach), []api.Field{}
		for i, f := range n.maps(g, 12) {
			l, e := b.Add(i*i, f)
			wantErr(t, "Add", e, api.OK)
			var want []cell.Event
			if i > 0 {
				want = match(t, before[i-1], f, at, reach)
			}
			wantSame(t, "the events", l, want)
			before = append(before, f)
		}
	}
}

// P8.4: copies that are changed afterwards, and the first book too, each in its
// own way.
func TestCopies(t *testing.T) {
	for seed := range 20 {
		n := &noise{state: uint64(12000 + seed)}
		g, reach := grid(8, 8), n.upTo(2)
		maps := n.maps(g, 5)
		b := bookOf(t, level, reach, maps...)
		books := []*cell.Book{b, b.Copy(), b.Copy().Copy(), newBook(t, g, level, reach).Copy()}
		records := [][]api.Field{slices.Clone(maps), slices.Clone(maps), slices.Clone(maps), nil}
		for range 20 {
			i := n.upTo(len(books) - 1)
			f := n.maps(g, 2)[1]
			_, e := books[i].Add(10+10*len(records[i]), f)
			wantErr(t, "Add", e, api.OK)
			records[i] = append(records[i], f)
		}
		for i := range books {
			if len(records[i]) == 0 {
				continue
			}
			want := answers(bookOf(t, level, reach, records[i]...))
			wantSame(t, fmt.Sprint("the book ", i), answers(books[i]), want)
			wantSame(t, fmt.Sprint("a copy of the book ", i), answers(books[i].Copy()), want)
		}
	}
}

// P8.4: a copy has the grid, the level, the reach and the last time.
func TestCopyOfAll(t *testing.T) {
	b := newBook(t, grid(5, 1), 7, 2)
	same := b.Copy()
	wantAdd(t, "another grid", same, 0, picture("#"), nil, api.ErrShape)
	wantAdd(t, "a map", b, 20, fieldOf(span(7, 7), span(6, 6), span(0, 0), span(0, 0), span(0, 0)), nil, api.OK)
	same = b.Copy()
	other := fieldOf(span(6, 6), span(6, 6), span(7, 7), span(0, 0), span(0, 0))
	wantAdd(t, "a late map", same, 20, other, nil, api.ErrLate)
	wantAdd(t, "a map of the copy", same, 21, other, []cell.Event{{Kind: cell.Kept, From: []int{0}, To: []int{0}}}, api.OK)
	wantSame(t, "the maps of both", []int{b.Tally().Maps, same.Tally().Maps}, []int{1, 2})
	other.Vals[2], other.Vals[4] = other.Vals[4], other.Vals[2]
	wantAdd(t, "a map of the first book", b, 21, other, []cell.Event{
		{Kind: cell.End, From: []int{0}}, {Kind: cell.Birth, To: []int{0}},
	}, api.OK)
	wantSame(t, "the tracks of the copy", len(same.Tracks()), 1)
	wantSame(t, "the tracks of the first book", len(b.Tracks()), 2)
}

// A struct that is copied from a book is the same book: neither of both can get
// out of step with the other one.
func TestCopiedStruct(t *testing.T) {
	b := bookOf(t, level, 1, picture("#.#"))
	same := *b
	wantAdd(t, "a map", &same, 20, picture("###"), []cell.Event{{Kind: cell.Join, From: []int{0, 1}, To: []int{0}}}, api.OK)
	wantAdd(t, "a late map", b, 20, picture("###"), nil, api.ErrLate)
	wantSame(t, "both", answers(b), answers(&same))
}
