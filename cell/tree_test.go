package cell_test

import (
	"fmt"
	"math"
	"slices"
	"testing"

	"radome/api"
	"radome/cell"
)

func tree(t *testing.T, f api.Field, levels ...int) [][]int {
	t.Helper()
	l, e := cell.Tree(f, levels)
	wantErr(t, "Tree", e, api.OK)
	return l
}

// upwards returns the levels from 1 to a number.
func upwards(most int) []int {
	l := make([]int, most)
	for i := range l {
		l[i] = i + 1
	}
	return l
}

// P8.2: what the definitions say, on many fields.
func TestAnyTree(t *testing.T) {
	branches := 0
	for seed := range 150 {
		n := &noise{state: uint64(4000 + seed)}
		f := n.field(n.grid(7))
		for _, levels := range [][]int{{5}, {5, 8}, {1, 3, 9}, {2, 6, 7, 8}, upwards(11), upwards(16)} {
			got := tree(t, f, levels...)
			wantSame(t, fmt.Sprintf("Tree of %v for %v", f, levels), got, wantTree(f, levels))
			for _, l := range got {
				branches += max(0, len(l)-1)
			}
		}
	}
	if branches < 1000 {
		t.Errorf("only %d branches", branches)
	}
}

// P8.2: one level, 16 levels, and levels at which there is no area.
func TestTrees(t *testing.T) {
	hills := fieldOf(span(3, 3), span(9, 9), span(4, 4), span(0, 7), span(1, 1), span(0, 6), span(2, 3), span(8, 8))
	for _, x := range []struct {
		levels []int
		want   [][]int
	}{
		{[]int{1}, [][]int{{-1}}},
		{[]int{2}, [][]int{{-1, -1}}},
		{[]int{10}, [][]int{{}}},
		{[]int{1, 2}, [][]int{{-1}, {0, 0}}},
		{[]int{2, 5}, [][]int{{-1, -1}, {0, 0, 1, 1}}},
		{[]int{1, 5}, [][]int{{-1}, {0, 0, 0, 0}}},
		{[]int{5, 7, 8, 9}, [][]int{{-1, -1, -1, -1}, {0, 1, 3}, {0, 2}, {0}}},
		{[]int{5, 6, 10}, [][]int{{-1, -1, -1, -1}, {0, 1, 2, 3}, {}}},
		{[]int{9, 10, 11, maxPower}, [][]int{{-1}, {}, {}, {}}},
		{upwards(16), [][]int{
			{-1}, {0, 0}, {0, 1}, {0, 1, 1}, {0, 0, 1, 2}, {0, 1, 2, 3}, {0, 1, 3}, {0, 2}, {0}, {}, {}, {}, {}, {}, {}, {},
		}},
	} {
		wantSame(t, fmt.Sprint("Tree for ", x.levels), tree(t, hills, x.levels...), x.want)
	}
	wantSame(t, "Tree of a pixel", tree(t, fieldOf(span(1, 1)), 1, 2), [][]int{{-1}, {}})
	corners := picture("##.", ".##", "#..") // an area, and one beside a corner
	wantSame(t, "Tree of corners", tree(t, corners, 4, 5), [][]int{{-1}, {0, 0}})
}

// P8.2: a field of 64 by 64, at each of 16 levels in other areas.
func TestWholeTree(t *testing.T) {
	f := plain(64, 64, span(1, 1))
	for i := range f.Vals {
		f.Vals[i].Hi = 1 + min(i%64/4, i/64/4) // stairs
	}
	want := [][]int{{-1}}
	for range 15 {
		want = append(want, []int{0})
	}
	wantSame(t, "Tree of stairs", tree(t, f, upwards(16)...), want)
	got := tree(t, board(64, 64, 0), 1, 5, 9, 10)
	if len(got[1]) != 2048 || len(got[2]) != 2048 || len(got[3]) != 0 {
		t.Fatalf("Tree of a board: %d, %d, %d", len(got[1]), len(got[2]), len(got[3]))
	}
	for i := range got[1] {
		if got[1][i] != 0 || got[2][i] != i {
			t.Errorf("the parents of the area %d: %d and %d", i, got[1][i], got[2][i])
		}
	}
}

// P8.2: which error comes first.
func TestTreeErrors(t *testing.T) {
	tooMany := upwards(17)
	for what, bad := range badFields() {
		for _, levels := range [][]int{nil, {0}, tooMany, {5, 1}, {5}} {
			if l, e := cell.Tree(bad.f, levels); l != nil || e != bad.e {
				t.Errorf("Tree of %s: %v %d, want %d", what, l, e, bad.e)
			}
		}
	}
	f := plain(3, 2, span(1, maxPower))
	for _, x := range []struct {
		levels []int
		want   api.Errno
	}{
		{nil, api.ErrRange}, {[]int{}, api.ErrRange}, {tooMany, api.ErrRange}, {append([]int{0}, upwards(16)...), api.ErrRange},
		{slices.Repeat([]int{5}, 17), api.ErrRange}, {slices.Repeat([]int{5}, 16), api.ErrOrder}, {upwards(16), api.OK},
		{[]int{0}, api.ErrRange}, {[]int{-1}, api.ErrRange}, {[]int{maxPower + 1}, api.ErrRange}, {[]int{math.MinInt}, api.ErrRange}, {[]int{math.MaxInt}, api.ErrRange},
		{[]int{1}, api.OK}, {[]int{maxPower}, api.OK}, {[]int{1, maxPower}, api.OK}, {[]int{maxPower - 1, maxPower}, api.OK},
		{[]int{5, 5}, api.ErrOrder}, {[]int{5, 4}, api.ErrOrder}, {[]int{5, 6}, api.OK}, {[]int{1, 2, 2}, api.ErrOrder},
		{[]int{5, 0}, api.ErrRange}, {[]int{maxPower, maxPower + 1}, api.ErrRange}, {[]int{5, math.MinInt}, api.ErrRange},
		{[]int{5, 4, 0}, api.ErrOrder}, {[]int{5, 0, 4}, api.ErrRange}, {[]int{0, 5, 5}, api.ErrRange}, {[]int{1, 3, 2, maxPower + 1}, api.ErrOrder},
		{[]int{maxPower + 1, 1}, api.ErrRange},
	} {
		l, e := cell.Tree(f, x.levels)
		wantErr(t, fmt.Sprint("Tree for ", x.levels), e, x.want)
		if e != api.OK && l != nil {
			t.Errorf("Tree for %v: %v with an error", x.levels, l)
		}
	}
}

// P8.8: the children of an area lie within it, and have no pixel in common.
func TestChildren(t *testing.T) {
	for seed := range 100 {
		n := &noise{state: uint64(5000 + seed)}
		f := n.field(n.grid(9))
		levels := upwards(10)
		for i, parents := range tree(t, f, levels...) {
			if i == 0 {
				continue
			}
			outer, inner := areas(t, f, levels[i-1]), areas(t, f, levels[i])
			if len(parents) != len(inner) {
				t.Fatalf("%d parents of %d areas", len(parents), len(inner))
			}
			seen := map[int]bool{}
			for j, parent := range parents {
				if !isWithin(inner[j].Pixels, outer[parent].Pixels) {
					t.Errorf("the area %d of %v at %d does not lie within %d", j, f, levels[i], parent)
				}
				for _, p := range inner[j].Pixels {
					if seen[p] {
						t.Errorf("the pixel %d of %v has two areas at %d", p, f, levels[i])
					}
					seen[p] = true
				}
			}
		}
	}
}
