package cell

import (
	"slices"

	"radome/api"
)

// history is a track without its parents and children: it has them from the
// turns between which it lies, as very many tracks can have the same ones.
type history struct {
	from  int // the number of its first map
	areas []int
	begin int // the number of a turn, or none in the first map
	end   int // the number of a turn, or none in the last map
}

// turn is an event that is not Kept, with the tracks that end in it, and those
// that begin in it, both ascending.
type turn struct {
	kind int
	from []int
	to   []int
}

func (h history) copied() history {
	h.areas = slices.Clone(h.areas)
	return h
}

func (t turn) copied() turn {
	return turn{kind: t.kind, from: slices.Clone(t.from), to: slices.Clone(t.to)}
}

// enter adds a map, with the events that lead to it, to the histories.
func (k *state) enter(c *chart, events []Event) {
	s := sheet{chart: c, tracks: make([]int, len(c.areas))}
	begins := make([]int, len(c.areas)) // the turn by which an area begins a track
	for i := range c.areas {
		s.tracks[i], begins[i] = none, none
	}
	for _, e := range events {
		k.counts[e.Kind]++
		before := k.maps[len(k.maps)-1].tracks
		if e.Kind == Kept {
			s.tracks[e.To[0]] = before[e.From[0]]
			continue
		}
		for _, area := range e.To {
			begins[area] = len(k.turns)
		}
		k.end(e, before)
	}
	for i := range c.areas {
		if s.tracks[i] == none {
			s.tracks[i] = k.begin(begins[i])
		}
		h := &k.tracks[s.tracks[i]]
		h.areas = append(h.areas, i)
	}
	k.maps = append(k.maps, s)
}

// end adds the turn of an event, in which tracks of the last map end.
func (k *state) end(e Event, tracks []int) {
	t := turn{kind: e.Kind}
	for _, area := range e.From {
		number := tracks[area]
		k.tracks[number].end = len(k.turns)
		t.from = append(t.from, number)
	}
	slices.Sort(t.from) // areas are not numbered in the order of their tracks
	k.turns = append(k.turns, t)
}

// begin adds a track, without areas, that begins in the next map by a turn, and
// returns its number.
func (k *state) begin(by int) int {
	number := len(k.tracks)
	k.tracks = append(k.tracks, history{from: len(k.maps), begin: by, end: none})
	if by != none {
		k.turns[by].to = append(k.turns[by].to, number)
	}
	return number
}

// Tracks returns all tracks.
func (b *Book) Tracks() []Track {
	if b.isNone() {
		return nil
	}
	return mapped(b.kept.tracks, b.kept.whole)
}

// whole returns a history with its parents and children.
func (k *state) whole(h history) Track {
	t := Track{Begin: First, From: h.from, Areas: slices.Clone(h.areas)}
	if h.begin != none {
		t.Begin = k.turns[h.begin].kind
		t.Parents = slices.Clone(k.turns[h.begin].from)
	}
	if h.end != none {
		t.End = k.turns[h.end].kind
		t.Children = slices.Clone(k.turns[h.end].to)
	}
	return t
}

// Of returns the track of an area; ErrNone if there is no such map or area.
func (b *Book) Of(number, area int) (int, api.Errno) {
	if b.isNone() {
		return 0, api.ErrNil
	}
	k := b.kept
	if !hasNumber(k.maps, number) || !hasNumber(k.maps[number].tracks, area) {
		return 0, api.ErrNone
	}
	return k.maps[number].tracks[area], api.OK
}

// Past returns the tracks from which a track came, and those from which these
// came, and so on; ErrNone if there is no such track.
func (b *Book) Past(track int) ([]int, api.Errno) {
	if e := b.checkTrack(track); e != api.OK {
		return nil, e
	}
	begin, from := func(h history) int { return h.begin }, func(t turn) []int { return t.from }
	return b.kept.line(track, begin, from), api.OK
}

// Future returns the tracks that came from a track, and those that came from
// these, and so on; ErrNone if there is no such track.
func (b *Book) Future(track int) ([]int, api.Errno) {
	if e := b.checkTrack(track); e != api.OK {
		return nil, e
	}
	end, to := func(h history) int { return h.end }, func(t turn) []int { return t.to }
	return b.kept.line(track, end, to), api.OK
}

// line returns all tracks to which turns lead from a track, ascending. Each turn
// is passed once, whatever number of tracks leads to it.
func (k *state) line(track int, turnOf func(history) int, tracksOf func(turn) []int) []int {
	isPassed := make([]bool, len(k.turns))
	l := []int{track}
	for i := 0; i < len(l); i++ { // l grows meanwhile
		by := turnOf(k.tracks[l[i]])
		if by != none && !isPassed[by] {
			isPassed[by] = true
			l = append(l, tracksOf(k.turns[by])...)
		}
	}
	others := l[1:]
	slices.Sort(others)
	return others
}

// Steps returns for each area of a track but the last one the moves that are
// possible for it and the next one; ErrNone if there is no such track.
func (b *Book) Steps(track int) ([][]Move, api.Errno) {
	if e := b.checkTrack(track); e != api.OK {
		return nil, e
	}
	k := b.kept
	h := k.tracks[track]
	l := make([][]Move, len(h.areas)-1)
	for i := range l {
		earlier, later := k.maps[h.from+i].chart, k.maps[h.from+i+1].chart
		l[i] = moves(earlier, later, k.reach, h.areas[i], h.areas[i+1])
	}
	return l, api.OK
}

// checkTrack returns ErrNil if a book is none, and ErrNone if it has no such
// track.
func (b *Book) checkTrack(track int) api.Errno {
	if b.isNone() {
		return api.ErrNil
	}
	if !hasNumber(b.kept.tracks, track) {
		return api.ErrNone
	}
	return api.OK
}
