package cell_test

import (
	"fmt"
	"slices"
	"testing"

	"radome/api"
	"radome/cell"
)

// wantBook checks all answers of a book with some maps.
func wantBook(t *testing.T, r record) {
	t.Helper()
	b := bookOf(t, r.level, r.reach, r.maps...)
	tracks := r.Tracks()
	what := fmt.Sprintf(" of %+v", r)
	wantSame(t, "Tracks"+what, b.Tracks(), tracks)
	wantSame(t, "Tally"+what, b.Tally(), r.Tally())
	for number, f := range r.maps {
		for area := range wantAreas(f, r.level) {
			track, e := b.Of(number, area)
			wantErr(t, "Of", e, api.OK)
			wantSame(t, fmt.Sprint("Of ", number, ", ", area, what), track, r.Of(tracks, number, area))
		}
	}
	for i, x := range tracks {
		past, e := b.Past(i)
		future, e1 := b.Future(i)
		steps, e2 := b.Steps(i)
		wantSame(t, "the errors", []api.Errno{e, e1, e2}, []api.Errno{0, 0, 0})
		wantSame(t, fmt.Sprint("Past of ", i, what), past, wantLine(tracks, i, func(t cell.Track) []int { return t.Parents }))
		wantSame(t, fmt.Sprint("Future of ", i, what), future, wantLine(tracks, i, func(t cell.Track) []int { return t.Children }))
		wantSame(t, fmt.Sprint("Steps of ", i, what), steps, r.Steps(x))
	}
}

// P8.5: what the definitions say, on many books.
func TestAnyTracks(t *testing.T) {
	long, many := 0, 0
	for seed := range 200 {
		n := &noise{state: uint64(13000 + seed)}
		g := n.grid(9)
		r := record{level: n.of(level, level, 7), reach: n.of(0, 0, 1, 1, 2, 8), maps: n.maps(g, 1+n.upTo(9))}
		if seed%4 == 0 {
			r.maps = nil
			for range 1 + n.upTo(4) {
				r.maps = append(r.maps, n.field(g))
			}
		}
		wantBook(t, r)
		for _, x := range r.Tracks() {
			if len(x.Areas) > 3 {
				long++
			}
			if len(x.Parents) > 1 && len(x.Children) > 1 {
				many++
			}
		}
		if t.Failed() {
			return
		}
	}
	if long < 50 || many < 20 {
		t.Errorf("only %d tracks are long, and %d have several parents and children", long, many)
	}
}

// P8.5: maps without areas, and tracks over one map and over many.
func TestSimpleTracks(t *testing.T) {
	wantTracks := func(maps []string, want []cell.Track, tally cell.Tally) {
		t.Helper()
		var l []api.Field
		for _, row := range maps {
			l = append(l, picture(row))
		}
		b := bookOf(t, level, 1, l...)
		wantSame(t, fmt.Sprint("Tracks of ", maps), b.Tracks(), want)
		wantSame(t, fmt.Sprint("Tally of ", maps), b.Tally(), tally)
	}
	wantTracks([]string{"..."}, nil, cell.Tally{Maps: 1})
	wantTracks([]string{"...", "...", "..."}, nil, cell.Tally{Maps: 3})
	wantTracks([]string{"#.?"}, []cell.Track{{Begin: cell.First, Areas: []int{0}}, {Begin: cell.First, Areas: []int{1}}}, cell.Tally{Maps: 1, Areas: 2, Tracks: 2})
	wantTracks([]string{"...", "#..", "..."}, []cell.Track{{Begin: cell.Birth, From: 1, Areas: []int{0}, End: cell.End}}, cell.Tally{Maps: 3, Areas: 1, Tracks: 1, Births: 1, Ends: 1})
	wantTracks([]string{"#..", "...", "#.."}, []cell.Track{
		{Begin: cell.First, Areas: []int{0}, End: cell.End}, {Begin: cell.Birth, From: 2, Areas: []int{0}},
	}, cell.Tally{Maps: 3, Areas: 2, Tracks: 2, Births: 1, Ends: 1})
	wantTracks(slices.Repeat([]string{"#...#"}, 48), []cell.Track{
		{Begin: cell.First, Areas: make([]int, 48)}, {Begin: cell.First, Areas: slices.Repeat([]int{1}, 48)},
	}, cell.Tally{Maps: 48, Areas: 96, Tracks: 2, Kept: 94})
	// The area of a track gets another number, as one before it is born.
	wantTracks([]string{"....#", "#...#", "#...."}, []cell.Track{
		{Begin: cell.First, Areas: []int{0, 1}, End: cell.End}, {Begin: cell.Birth, From: 1, Areas: []int{0, 0}},
	}, cell.Tally{Maps: 3, Areas: 4, Tracks: 2, Births: 1, Ends: 1, Kept: 2})
}

// P8.5: tracks with several parents and several children; the parents are
// ascending, though the areas from which they come have other numbers.
func TestFamilies(t *testing.T) {
	b := bookOf(t, level, 0,
		picture("......#"),
		picture("#...#.#"),
		picture("#...###"),
		picture("#######"),
		picture("##.#.##"),
		picture("##.#.#."),
	)
	wantSame(t, "Tracks", b.Tracks(), []cell.Track{
		{Begin: cell.First, From: 0, Areas: []int{0, 2}, End: cell.Join, Children: []int{3}},
		{Begin: cell.Birth, From: 1, Areas: []int{0, 0}, End: cell.Join, Children: []int{4}},
		{Begin: cell.Birth, From: 1, Areas: []int{1}, End: cell.Join, Children: []int{3}},
		{Begin: cell.Join, From: 2, Areas: []int{1}, End: cell.Join, Parents: []int{0, 2}, Children: []int{4}},
		{Begin: cell.Join, From: 3, Areas: []int{0}, End: cell.Split, Parents: []int{1, 3}, Children: []int{5, 6, 7}},
		{Begin: cell.Split, From: 4, Areas: []int{0, 0}, Parents: []int{4}},
		{Begin: cell.Split, From: 4, Areas: []int{1, 1}, Parents: []int{4}},
		{Begin: cell.Split, From: 4, Areas: []int{2, 2}, Parents: []int{4}},
	})
	wantSame(t, "Tally", b.Tally(), cell.Tally{Maps: 6, Areas: 13, Tracks: 8, Births: 2, Kept: 5, Splits: 1, Joins: 2})
	wantLines(t, b, 4, []int{0, 1, 2, 3}, []int{5, 6, 7})
	wantLines(t, b, 3, []int{0, 2}, []int{4, 5, 6, 7})
	wantLines(t, b, 0, nil, []int{3, 4, 5, 6, 7})
	wantLines(t, b, 7, []int{0, 1, 2, 3, 4}, nil)
	// An older track joins from behind a younger one.
	b = bookOf(t, level, 0, picture("....#"), picture("#...#"), picture("#####"))
	wantSame(t, "the parents", b.Tracks()[2].Parents, []int{0, 1})
}

// wantLines checks the past and the future of a track.
func wantLines(t *testing.T, b *cell.Book, track int, past, future []int) {
	t.Helper()
	l, e := b.Past(track)
	wantErr(t, "Past", e, api.OK)
	wantSame(t, fmt.Sprint("Past of ", track), l, past)
	l, e = b.Future(track)
	wantErr(t, "Future", e, api.OK)
	wantSame(t, fmt.Sprint("Future of ", track), l, future)
}

// P8.5: tracks that share a past by two ways, and those behind a knot.
func TestSharedPast(t *testing.T) {
	b := bookOf(t, level, 0,
		picture("#######"),
		picture("##.#.##"),
		picture("#######"),
		picture("###.###"),
		picture("#.#####"),
		picture("#.##.##"),
	)
	wantSame(t, "Tracks", b.Tracks(), []cell.Track{
		{Begin: cell.First, From: 0, Areas: []int{0}, End: cell.Split, Children: []int{1, 2, 3}},
		{Begin: cell.Split, From: 1, Areas: []int{0}, End: cell.Join, Parents: []int{0}, Children: []int{4}},
		{Begin: cell.Split, From: 1, Areas: []int{1}, End: cell.Join, Parents: []int{0}, Children: []int{4}},
		{Begin: cell.Split, From: 1, Areas: []int{2}, End: cell.Join, Parents: []int{0}, Children: []int{4}},
		{Begin: cell.Join, From: 2, Areas: []int{0}, End: cell.Split, Parents: []int{1, 2, 3}, Children: []int{5, 6}},
		{Begin: cell.Split, From: 3, Areas: []int{0}, End: cell.Knot, Parents: []int{4}, Children: []int{7, 8}},
		{Begin: cell.Split, From: 3, Areas: []int{1}, End: cell.Knot, Parents: []int{4}, Children: []int{7, 8}},
		{Begin: cell.Knot, From: 4, Areas: []int{0, 0}, Parents: []int{5, 6}},
		{Begin: cell.Knot, From: 4, Areas: []int{1}, End: cell.Split, Parents: []int{5, 6}, Children: []int{9, 10}},
		{Begin: cell.Split, From: 5, Areas: []int{1}, Parents: []int{8}},
		{Begin: cell.Split, From: 5, Areas: []int{2}, Parents: []int{8}},
	})
	wantSame(t, "Tally", b.Tally(), cell.Tally{Maps: 6, Areas: 12, Tracks: 11, Kept: 1, Splits: 3, Joins: 1, Knots: 1})
	wantLines(t, b, 0, nil, upTo(1, 10))
	wantLines(t, b, 2, []int{0}, upTo(4, 10))
	wantLines(t, b, 4, upTo(0, 3), upTo(5, 10))
	wantLines(t, b, 6, upTo(0, 4), upTo(7, 10))
	wantLines(t, b, 7, upTo(0, 6), nil)
	wantLines(t, b, 10, []int{0, 1, 2, 3, 4, 5, 6, 8}, nil)
}

// upTo returns the numbers from one to another one.
func upTo(from, to int) []int {
	var l []int
	for n := from; n <= to; n++ {
		l = append(l, n)
	}
	return l
}

// P8.5: maps, areas and tracks that do not exist.
func TestTrackErrors(t *testing.T) {
	b := bookOf(t, level, 0, picture("#.#"), picture("###"), picture("..."), picture("#.."))
	counts := []int{2, 1, 0, 1}
	for _, number := range append(extremes(), 3, 4) {
		for _, area := range append(extremes(), 3, 4) {
			want := api.ErrNone
			if number >= 0 && number < 4 && area >= 0 && area < counts[number] {
				want = api.OK
			}
			if track, e := b.Of(number, area); e != want || e != api.OK && track != 0 {
				t.Errorf("Of the map %d, area %d: %d %d, want %d", number, area, track, e, want)
			}
		}
	}
	tracks := len(b.Tracks())
	wantSame(t, "the number of tracks", tracks, 4)
	for _, track := range append(extremes(), 3, 4) {
		want := api.ErrNone
		if track >= 0 && track < tracks {
			want = api.OK
		}
		past, e := b.Past(track)
		wantErr(t, "Past", e, want)
		future, e := b.Future(track)
		wantErr(t, "Future", e, want)
		steps, e := b.Steps(track)
		wantErr(t, "Steps", e, want)
		if want != api.OK && (past != nil || future != nil || steps != nil) {
			t.Errorf("the track %d: %v %v %v", track, past, future, steps)
		}
	}
}

// P8.5: the steps of a track: none for one map; with the reach of the book, and
// for the areas of the track alone.
func TestSteps(t *testing.T) {
	b := bookOf(t, level, 1,
		picture("........", "#.....?.", "........"),
		picture(".#......", "......?.", "........"),
		picture("........", ".#....?.", "#......."),
		picture("........", "...#....", "........"),
	)
	steps := func(track int, want [][]cell.Move) {
		t.Helper()
		got, e := b.Steps(track)
		wantErr(t, "Steps", e, api.OK)
		wantSame(t, fmt.Sprint("Steps of ", track), got, want)
	}
	wantSame(t, "the first track", b.Tracks()[0].Areas, []int{0, 0, 0})
	steps(0, [][]cell.Move{{{X: 1, Y: -1}, {X: -1, Y: 1}}, {{X: 0, Y: 1}}})
	every := all(1, func(x, y int) bool { return true })
	steps(1, [][]cell.Move{every, every})
	for track := 2; track < len(b.Tracks()); track++ {
		steps(track, nil)
	}
	still := bookOf(t, level, 0, picture("...", ".#.", "..."), picture("...", ".#.", "..."), picture("...", ".##", "..."))
	got, e := still.Steps(0)
	wantErr(t, "Steps", e, api.OK)
	wantSame(t, "Steps of reach 0", got, [][]cell.Move{{{}}, {}}) // nothing can have moved so
}

// P8.11: each area is in one track; parents and children answer each other; the
// past comes before, the future behind; births, ends, joins and splits balance.
func TestBalance(t *testing.T) {
	for seed := range 40 {
		n := &noise{state: uint64(14000 + seed)}
		g, reach := n.grid(16), n.upTo(2)
		maps := n.maps(g, 20)
		b := newBook(t, g, level, reach)
		tracks, before := 0, 0
		for i, f := range maps {
			events, e := b.Add(i, f)
			wantErr(t, "Add", e, api.OK)
			here := len(areas(t, f, level))
			change := 0
			for _, x := range events {
				change += len(x.To) - len(x.From)
				if x.Kind != cell.Kept {
					tracks += len(x.To)
				}
			}
			if i == 0 {
				tracks, change = here, here
			}
			wantSame(t, "the number of areas", here, before+change)
			wantSame(t, "the number of tracks", len(b.Tracks()), tracks)
			before = here
		}
		wantEachOnce(t, b, maps)
		wantKin(t, b)
	}
}

// wantEachOnce checks that each area of each map is in one track.
func wantEachOnce(t *testing.T, b *cell.Book, maps []api.Field) {
	t.Helper()
	count := map[[2]int]int{}
	for i, x := range b.Tracks() {
		for k, area := range x.Areas {
			count[[2]int{x.From + k, area}]++
			track, e := b.Of(x.From+k, area)
			wantErr(t, "Of", e, api.OK)
			wantSame(t, "the track of an area", track, i)
		}
	}
	total := 0
	for number, f := range maps {
		for area := range areas(t, f, level) {
			wantSame(t, fmt.Sprint("the tracks with the area ", area, " of the map ", number), count[[2]int{number, area}], 1)
			total++
		}
	}
	wantSame(t, "all areas", []int{len(count), b.Tally().Areas}, []int{total, total})
}

// wantKin checks that parents and children answer each other.
func wantKin(t *testing.T, b *cell.Book) {
	t.Helper()
	tracks := b.Tracks()
	for i, x := range tracks {
		for _, j := range x.Parents {
			wantSame(t, "a child of its parent", slices.Contains(tracks[j].Children, i), true)
		}
		for _, j := range x.Children {
			wantSame(t, "a parent of its child", slices.Contains(tracks[j].Parents, i), true)
		}
		past, _ := b.Past(i)
		future, _ := b.Future(i)
		for _, l := range [][]int{x.Parents, x.Children, past, future} {
			wantSame(t, "ascending", slices.IsSorted(l) && len(slices.Compact(slices.Clone(l))) == len(l), true)
		}
		if len(past) > 0 && past[len(past)-1] >= i || len(future) > 0 && future[0] <= i {
			t.Errorf("the past %v and the future %v of %d", past, future, i)
		}
	}
}

// P8.5: full books of 64 by 64, in which each area is a pixel: tracks that are
// kept, and tracks that all end in knots.
func TestWholeBook(t *testing.T) {
	white, black := board(64, 64, 0), board(64, 64, 1)
	kept := bookOf(t, level, 0, slices.Repeat([]api.Field{white}, 48)...)
	wantSame(t, "Tally", kept.Tally(), cell.Tally{Maps: 48, Areas: 48 * 2048, Tracks: 2048, Kept: 47 * 2048})
	l, e := kept.Steps(2047)
	wantErr(t, "Steps", e, api.OK)
	wantSame(t, "Steps of the last one", l, slices.Repeat([][]cell.Move{{{}}}, 47))
	var maps []api.Field
	for range 24 {
		maps = append(maps, white, black)
	}
	knots := bookOf(t, level, 8, maps...)
	wantSame(t, "Tally", knots.Tally(), cell.Tally{Maps: 48, Areas: 48 * 2048, Tracks: 48 * 2048, Knots: 47})
	wantLines(t, knots, 47*2048, upTo(0, 47*2048-1), nil)
	wantLines(t, knots, 2047, nil, upTo(2048, 48*2048-1))
	wantLines(t, knots.Copy(), 2048, upTo(0, 2047), upTo(2*2048, 48*2048-1))
}
