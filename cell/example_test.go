package cell_test

import (
	"testing"

	"radome/api"
	"radome/cell"
)

// exampleF and exampleH are the fields of the chapter's examples.
func exampleF() api.Field { return fieldOf(span(5, 5), span(2, 5), span(5, 5), span(0, 1)) }

func exampleH() api.Field { return fieldOf(span(0, 1), span(5, 5), span(2, 5), span(5, 5)) }

// P8.1: the chapter's examples of Areas, Joined and Gap.
func TestExamplesOfOneMap(t *testing.T) {
	f := exampleF()
	wantSame(t, "Areas at 5", areas(t, f, 5), []cell.Area{
		{Pixels: []int{0, 1, 2}, Kernels: [][]int{{0}, {2}}, X: span(0, 2), Y: span(0, 0), Sum: span(10, 15)},
	})
	wantSame(t, "Areas at 2", areas(t, f, 2), []cell.Area{
		{Pixels: []int{0, 1, 2}, Kernels: [][]int{{0, 1, 2}}, X: span(0, 2), Y: span(0, 0), Sum: span(12, 15)},
	})
	for _, x := range []struct{ level, p, q, joined, gap int }{
		{5, 0, 2, cell.Open, 1}, {5, 0, 0, cell.Yes, 0}, {5, 0, 3, cell.No, -1}, {5, 1, 1, cell.Open, 1}, {2, 0, 2, cell.Yes, 0},
	} {
		wantSame(t, "Joined", joined(t, f, x.level, x.p, x.q), x.joined)
		wantSame(t, "Gap", gap(t, f, x.level, x.p, x.q), x.gap)
	}
}

// P8.2: the chapter's examples of Tree.
func TestExamplesOfTree(t *testing.T) {
	wantSame(t, "Tree for 1, 5", tree(t, exampleF(), 1, 5), [][]int{{-1}, {0}})
	wantSame(t, "Tree for 1, 6", tree(t, exampleF(), 1, 6), [][]int{{-1}, {}})
	l, e := cell.Tree(exampleF(), []int{5, 1})
	wantSame(t, "Tree for 5, 1", l, [][]int{})
	wantErr(t, "Tree for 5, 1", e, api.ErrOrder)
}

// P8.3: the chapter's examples of Match, Moves and Hull.
func TestExamplesOfTwoMaps(t *testing.T) {
	f, h := exampleF(), exampleH()
	wantSame(t, "Match of F and H", match(t, f, h, 5, 1), []cell.Event{{Kind: cell.Kept, From: []int{0}, To: []int{0}}})
	wantSame(t, "Match of F and zeros", match(t, f, plain(4, 1, span(0, 0)), 5, 1), []cell.Event{{Kind: cell.End, From: []int{0}}})
	l := moves(t, f, h, 5, 1, 0, 0)
	wantSame(t, "Moves", l, []cell.Move{
		{X: -1, Y: -1}, {X: 0, Y: -1}, {X: 1, Y: -1}, {X: -1, Y: 0}, {X: 1, Y: 0}, {X: -1, Y: 1}, {X: 0, Y: 1}, {X: 1, Y: 1},
	})
	x, y, e := cell.Hull(l)
	wantErr(t, "Hull", e, api.OK)
	wantSame(t, "Hull", []api.Span{x, y}, []api.Span{span(-1, 1), span(-1, 1)})
}

// P8.4, P8.5: the chapter's examples of books.
func TestExamplesOfBooks(t *testing.T) {
	b := bookOf(t, 5, 1, exampleF(), exampleH())
	wantSame(t, "Tracks", b.Tracks(), []cell.Track{{Begin: cell.First, From: 0, Areas: []int{0, 0}, End: 0}})
	wantSame(t, "Tally", b.Tally(), cell.Tally{Maps: 2, Areas: 2, Tracks: 1, Kept: 1})
	wantAdd(t, "Add at 20", b, 20, exampleF(), nil, api.ErrLate)
	track, e := b.Of(1, 0)
	wantErr(t, "Of the map 1", e, api.OK)
	wantSame(t, "Of the map 1", track, 0)
	_, e = b.Of(2, 0)
	wantErr(t, "Of the map 2", e, api.ErrNone)
}

// The numbers of the chapter, which other programs rely on.
func TestNumbers(t *testing.T) {
	wantSame(t, "the limits", []int{cell.MaxLevels, cell.MaxReach, cell.MaxMaps}, []int{16, 8, 48})
	wantSame(t, "the answers", []int{cell.Yes, cell.No, cell.Open}, []int{1, 2, 3})
	wantSame(t, "the kinds", []int{cell.First, cell.Birth, cell.End, cell.Kept, cell.Split, cell.Join, cell.Knot}, []int{1, 2, 3, 4, 5, 6, 7})
}
