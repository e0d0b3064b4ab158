package cell

import (
	"slices"

	"radome/api"
	"radome/beam"
)

// state is what a book keeps that NewBook made.
type state struct {
	grid   api.Grid
	level  int
	reach  int
	time   int // of the last map
	maps   []sheet
	tracks []history
	turns  []turn
	counts [Knot + 1]int // of the events of each kind
}

// sheet is a map of a book.
type sheet struct {
	chart  *chart
	tracks []int // of each area
}

// NewBook returns a book without maps; ErrRange if there is no such level or
// reach.
func NewBook(g api.Grid, level, reach int) (*Book, api.Errno) {
	if e := beam.CheckGrid(g); e != api.OK {
		return nil, e
	}
	if !isLevel(level) || !isReach(reach) {
		return nil, api.ErrRange
	}
	return &Book{kept: &state{grid: g, level: level, reach: reach}}, api.OK
}

// isNone reports whether a book is nil, or NewBook did not make it.
func (b *Book) isNone() bool { return b == nil || b.kept == nil }

// Add adds a map, and returns the events between the last one and this one:
// ErrShape if it has another grid, ErrRange if there is no such time, ErrLate if
// it is not above that of the last map, and ErrFull if there is no room.
func (b *Book) Add(time int, f api.Field) ([]Event, api.Errno) {
	if b.isNone() {
		return nil, api.ErrNil
	}
	k := b.kept
	if e := k.checkMap(time, f); e != api.OK {
		return nil, e
	}
	c := chartOf(f, k.level)
	var events []Event
	if len(k.maps) > 0 {
		events = match(k.maps[len(k.maps)-1].chart, c, k.reach)
	}
	k.time = time
	k.enter(c, events)
	return events, api.OK
}

// checkMap returns the error of a new map.
func (k *state) checkMap(time int, f api.Field) api.Errno {
	if e := beam.CheckField(f); e != api.OK {
		return e
	}
	if f.Grid != k.grid {
		return api.ErrShape
	}
	if !isIn(time, 0, api.MaxTime) {
		return api.ErrRange
	}
	if len(k.maps) > 0 && time <= k.time {
		return api.ErrLate
	}
	if len(k.maps) >= MaxMaps {
		return api.ErrFull
	}
	return api.OK
}

// Tally returns how many there are of what.
func (b *Book) Tally() Tally {
	if b.isNone() {
		return Tally{}
	}
	k := b.kept
	t := Tally{
		Maps: len(k.maps), Tracks: len(k.tracks),
		Births: k.counts[Birth], Ends: k.counts[End], Kept: k.counts[Kept],
		Splits: k.counts[Split], Joins: k.counts[Join], Knots: k.counts[Knot],
	}
	for _, s := range k.maps {
		t.Areas += len(s.tracks)
	}
	return t
}

// Copy returns an independent book with the same maps.
func (b *Book) Copy() *Book {
	if b.isNone() {
		return nil
	}
	same := *b.kept
	same.maps = mapped(same.maps, sheet.copied)
	same.tracks = mapped(same.tracks, history.copied)
	same.turns = mapped(same.turns, turn.copied)
	return &Book{kept: &same}
}

func (s sheet) copied() sheet {
	c := *s.chart
	c.isIn = slices.Clone(c.isIn)
	c.areas = mapped(c.areas, slices.Clone)
	c.owner = slices.Clone(c.owner)
	return sheet{chart: &c, tracks: slices.Clone(s.tracks)}
}

// mapped returns what becomes of the elements of a list.
func mapped[T, U any](l []T, become func(T) U) []U {
	others := make([]U, len(l))
	for i, x := range l {
		others[i] = become(x)
	}
	return others
}
