package cell_test

import (
	"fmt"
	"slices"
	"testing"

	"radome/api"
	"radome/cell"
)

// wantAll checks what Areas, Joined and Gap return for a field at a level.
func wantAll(t *testing.T, f api.Field, level int) {
	t.Helper()
	what := fmt.Sprintf("of %+v at %d", f, level)
	wantSame(t, "Areas "+what, areas(t, f, level), wantAreas(f, level))
	surely, perhaps := wantWays(f.Grid, wantIn(f, level)), wantWays(f.Grid, wantMay(f, level))
	for p := range f.Vals {
		gaps := wantGaps(f, level, p)
		for q := range f.Vals {
			want := cell.Open
			if surely[p][q] {
				want = cell.Yes
			} else if !perhaps[p][q] {
				want = cell.No
			}
			wantSame(t, fmt.Sprintf("Joined of %d and %d %s", p, q, what), joined(t, f, level, p, q), want)
			wantSame(t, fmt.Sprintf("Gap of %d and %d %s", p, q, what), gap(t, f, level, p, q), gaps[q])
		}
	}
}

// P8.1: what the definitions say, on many fields.
func TestAnyFields(t *testing.T) {
	for seed := range 150 {
		n := &noise{state: uint64(seed)}
		f := n.field(n.grid(6))
		for _, level := range []int{1, 5, n.upTo(8) + 1, 10} {
			wantAll(t, f, level)
		}
		if t.Failed() {
			return
		}
	}
}

// P8.1: spans that just reach a level, and just do not.
func TestReach(t *testing.T) {
	for _, x := range []struct {
		s       api.Span
		level   int
		in, may bool
	}{
		{span(5, 5), 5, true, true}, {span(5, 9), 5, true, true}, {span(6, 6), 5, true, true}, {span(4, 5), 5, false, true},
		{span(0, maxPower), 5, false, true}, {span(4, 4), 5, false, false}, {span(0, 4), 5, false, false}, {span(0, 0), 1, false, false},
		{span(0, 1), 1, false, true}, {span(1, 1), 1, true, true}, {span(maxPower, maxPower), maxPower, true, true},
		{span(maxPower-1, maxPower), maxPower, false, true}, {span(maxPower-1, maxPower-1), maxPower, false, false},
	} {
		f := fieldOf(x.s)
		what := fmt.Sprint(x.s, " at ", x.level)
		var want []cell.Area
		state, gapWanted := cell.No, -1
		if x.may {
			want = []cell.Area{{Pixels: []int{0}, Sum: span(0, x.s.Hi)}}
			state, gapWanted = cell.Open, 1
		}
		if x.in {
			want[0].Kernels = [][]int{{0}}
			want[0].Sum.Lo = x.s.Lo
			state, gapWanted = cell.Yes, 0
		}
		wantSame(t, "Areas of "+what, areas(t, f, x.level), want)
		wantSame(t, "Joined of "+what, joined(t, f, x.level, 0, 0), state)
		wantSame(t, "Gap of "+what, gap(t, f, x.level, 0, 0), gapWanted)
	}
}

// P8.1: areas that only meet at a corner, with several kernels and with none, in
// grids of one row and one column.
func TestShapes(t *testing.T) {
	for _, x := range []struct {
		rows []string
		want []cell.Area
	}{
		{[]string{"."}, nil},
		{[]string{"#.", ".#"}, []cell.Area{
			{Pixels: []int{0}, Kernels: [][]int{{0}}, Sum: span(5, 5)},
			{Pixels: []int{3}, Kernels: [][]int{{3}}, X: span(1, 1), Y: span(1, 1), Sum: span(5, 5)},
		}},
		{[]string{"#?", "?#"}, []cell.Area{
			{Pixels: []int{0, 1, 2, 3}, Kernels: [][]int{{0}, {3}}, X: span(0, 1), Y: span(0, 1), Sum: span(10, 20)},
		}},
		{[]string{"?.?", "???"}, []cell.Area{
			{Pixels: []int{0, 2, 3, 4, 5}, X: span(0, 2), Y: span(0, 1), Sum: span(0, 25)},
		}},
		{[]string{"#.?#?.#"}, []cell.Area{
			{Pixels: []int{0}, Kernels: [][]int{{0}}, Sum: span(5, 5)},
			{Pixels: []int{2, 3, 4}, Kernels: [][]int{{3}}, X: span(2, 4), Sum: span(5, 15)},
			{Pixels: []int{6}, Kernels: [][]int{{6}}, X: span(6, 6), Sum: span(5, 5)},
		}},
		{[]string{"#", "?", ".", "?", "#"}, []cell.Area{
			{Pixels: []int{0, 1}, Kernels: [][]int{{0}}, Y: span(0, 1), Sum: span(5, 10)},
			{Pixels: []int{3, 4}, Kernels: [][]int{{4}}, Y: span(3, 4), Sum: span(5, 10)},
		}},
		{[]string{"..#", "###", "#.."}, []cell.Area{
			{Pixels: []int{2, 3, 4, 5, 6}, Kernels: [][]int{{2, 3, 4, 5, 6}}, X: span(0, 2), Y: span(0, 2), Sum: span(25, 25)},
		}},
		{[]string{"#..#", "?..#", "####"}, []cell.Area{
			{Pixels: []int{0, 3, 4, 7, 8, 9, 10, 11}, Kernels: [][]int{{0}, {3, 7, 8, 9, 10, 11}}, X: span(0, 3), Y: span(0, 2), Sum: span(35, 40)},
		}},
		{[]string{".#", "#."}, []cell.Area{
			{Pixels: []int{1}, Kernels: [][]int{{1}}, X: span(1, 1), Sum: span(5, 5)},
			{Pixels: []int{2}, Kernels: [][]int{{2}}, Y: span(1, 1), Sum: span(5, 5)},
		}},
		{[]string{"..#", "#.."}, []cell.Area{ // neighbors by their numbers only
			{Pixels: []int{2}, Kernels: [][]int{{2}}, X: span(2, 2), Sum: span(5, 5)},
			{Pixels: []int{3}, Kernels: [][]int{{3}}, Y: span(1, 1), Sum: span(5, 5)},
		}},
	} {
		f := picture(x.rows...)
		wantSame(t, fmt.Sprint("Areas of ", x.rows), areas(t, f, level), x.want)
		wantAll(t, f, level)
	}
}

// P8.1: pixels that are asked for themselves; gaps where there are several ways,
// and where there is none.
func TestGaps(t *testing.T) {
	for _, x := range []struct {
		rows           []string
		p, q           int
		joined, gapped int
	}{
		{[]string{"#"}, 0, 0, cell.Yes, 0},
		{[]string{"?"}, 0, 0, cell.Open, 1},
		{[]string{"."}, 0, 0, cell.No, -1},
		{[]string{"#.#"}, 0, 2, cell.No, -1},
		{[]string{"#.#"}, 1, 1, cell.No, -1},
		{[]string{"#.#"}, 0, 1, cell.No, -1},
		{[]string{"#.#"}, 1, 2, cell.No, -1},
		{[]string{"###"}, 0, 2, cell.Yes, 0},
		{[]string{"?#?"}, 0, 2, cell.Open, 2},
		{[]string{"?#?"}, 1, 2, cell.Open, 1},
		{[]string{"????"}, 3, 0, cell.Open, 4},
		{[]string{"#?#?#"}, 0, 4, cell.Open, 2},
		{[]string{"#", "?", "#"}, 2, 0, cell.Open, 1},
		{[]string{"#??#", "####"}, 0, 3, cell.Yes, 0},                      // the longer way is better
		{[]string{"#??#", "#.?#", "####"}, 0, 3, cell.Yes, 0},              // and even longer
		{[]string{"#??#", "#..#", "##?#"}, 0, 3, cell.Open, 1},             // one is missing there
		{[]string{"#???#", "?...?", "?###?"}, 0, 4, cell.Open, 3},          // three here, and four there
		{[]string{"#???#", "?...?", "####?"}, 0, 4, cell.Open, 3},          // three on both ways
		{[]string{"#???#", "?...#", "#####"}, 0, 4, cell.Open, 1},          // three here, and one there
		{[]string{"#.#", ".?.", "#.#"}, 0, 8, cell.No, -1},                 // only corners
		{[]string{"#.#", "???", "#.#"}, 0, 8, cell.Open, 3},                // over the middle
		{[]string{"#?#", "?.?", "#?#"}, 0, 8, cell.Open, 2},                // around it
		{[]string{"####", "#..#", "#?.#", "####"}, 9, 12, cell.Open, 1},    // in a bay
		{[]string{"?????", "?...?", "?.?.?", "?...?"}, 12, 0, cell.No, -1}, // enclosed
	} {
		f := picture(x.rows...)
		what := fmt.Sprint(x.rows, ": ", x.p, " and ", x.q)
		wantSame(t, "Joined of "+what, joined(t, f, level, x.p, x.q), x.joined)
		wantSame(t, "Joined back of "+what, joined(t, f, level, x.q, x.p), x.joined)
		wantSame(t, "Gap of "+what, gap(t, f, level, x.p, x.q), x.gapped)
		wantSame(t, "Gap back of "+what, gap(t, f, level, x.q, x.p), x.gapped)
	}
}

// snake returns a field of 64 by 64 with one long way from row to row; of it
// only each third pixel is in for sure.
func snake() (f api.Field, way []int) {
	f = plain(64, 64, span(0, 4))
	for y := range 64 {
		for x := range 64 {
			at := y*64 + x
			switch {
			case y%4 == 0, y%4 == 1 && x == 63, y%4 == 3 && x == 0:
				way = append(way, at)
			case y%4 == 2:
				way = append(way, y*64+63-x)
			}
		}
	}
	for i, p := range way {
		f.Vals[p] = span(3, 7)
		if i%3 == 0 {
			f.Vals[p] = span(6, maxPower)
		}
	}
	return f, way
}

// P8.1: fields of 64 by 64: all in, none in, each pixel an area, and one way
// that is as long as can be.
func TestWholeGrid(t *testing.T) {
	all := plain(64, 64, span(maxPower, maxPower))
	l := areas(t, all, maxPower)
	if len(l) != 1 || len(l[0].Pixels) != 4096 || len(l[0].Kernels) != 1 || len(l[0].Kernels[0]) != 4096 {
		t.Fatalf("%d areas", len(l))
	}
	wantSame(t, "the frame and the sum", []api.Span{l[0].X, l[0].Y, l[0].Sum}, []api.Span{span(0, 63), span(0, 63), span(1<<42, 1<<42)})
	wantSame(t, "Joined of two ends", joined(t, all, 1, 0, 4095), cell.Yes)
	wantSame(t, "Gap of two ends", gap(t, plain(64, 64, span(0, 9)), 5, 4095, 0), 127)
	wantSame(t, "no areas", areas(t, plain(64, 64, span(0, 4)), 5), []cell.Area{})
	l = areas(t, board(64, 64, 1), 5)
	if len(l) != 2048 {
		t.Fatalf("%d areas of a board", len(l))
	}
	for i, a := range l {
		p := 2*i + 1 - i/32%2
		want := cell.Area{Pixels: []int{p}, Kernels: [][]int{{p}}, X: span(p%64, p%64), Y: span(p/64, p/64), Sum: span(5, 9)}
		wantSame(t, fmt.Sprint("the area ", i), a, want)
	}
}

// P8.1: a way that is as long as can be.
func TestSnake(t *testing.T) {
	f, way := snake()
	l := areas(t, f, 5)
	if len(l) != 1 || len(l[0].Pixels) != len(way) || len(l[0].Kernels) != (len(way)+2)/3 {
		t.Fatalf("%d areas, %d pixels, %d kernels, want %d and %d", len(l), len(l[0].Pixels), len(l[0].Kernels), len(way), (len(way)+2)/3)
	}
	wantSame(t, "the sum", l[0].Sum, span(6*len(l[0].Kernels), maxPower*len(l[0].Kernels)+7*(len(way)-len(l[0].Kernels))))
	for i := 0; i < len(way); i += 97 {
		wantSame(t, fmt.Sprint("Gap of the first and the element ", i), gap(t, f, 5, way[0], way[i]), countMissing(i))
		wantSame(t, "Gap back", gap(t, f, 5, way[i], way[0]), countMissing(i))
	}
}

// countMissing returns how many of the first elements of a snake's way, up to
// one, are not in for sure.
func countMissing(last int) int {
	n := 0
	for i := range last + 1 {
		if i%3 != 0 {
			n++
		}
	}
	return n
}

// areaCalls are calls of the functions of P8.1, each of which reports whether it
// returned nothing, and its error.
func areaCalls(f api.Field, level, p, q int) map[string]func() (bool, api.Errno) {
	return map[string]func() (bool, api.Errno){
		"Areas": func() (bool, api.Errno) {
			l, e := cell.Areas(f, level)
			return len(l) == 0, e
		},
		"Joined": func() (bool, api.Errno) {
			n, e := cell.Joined(f, level, p, q)
			return n == 0, e
		},
		"Gap": func() (bool, api.Errno) {
			n, e := cell.Gap(f, level, p, q)
			return n == 0, e
		},
	}
}

// wantError checks that all of some calls return nothing but an error.
func wantError(t *testing.T, what string, calls map[string]func() (bool, api.Errno), want api.Errno) {
	t.Helper()
	for name, call := range calls {
		if isNothing, e := call(); !isNothing || e != want {
			t.Errorf("%s of %s: error %d, with nothing: %v; want %d", name, what, e, isNothing, want)
		}
	}
}

// P8.1: which error comes first.
func TestAreaErrors(t *testing.T) {
	for what, bad := range badFields() {
		wantError(t, what, areaCalls(bad.f, 0, -1, 99), bad.e)
		wantError(t, what, areaCalls(bad.f, 5, 0, 0), bad.e)
	}
	f := plain(3, 2, span(1, maxPower))
	for _, level := range []int{0, -1, maxPower + 1} {
		wantError(t, "no level", areaCalls(f, level, -1, 99), api.ErrRange)
		wantError(t, "no level", areaCalls(f, level, 0, 0), api.ErrRange)
	}
	wantRange(t, "the level of Areas", 1, maxPower, func(n int) api.Errno { _, e := cell.Areas(f, n); return e })
	wantRange(t, "the level of Joined", 1, maxPower, func(n int) api.Errno { _, e := cell.Joined(f, n, 0, 1); return e })
	wantRange(t, "the level of Gap", 1, maxPower, func(n int) api.Errno { _, e := cell.Gap(f, n, 0, 1); return e })
	for _, n := range extremes() {
		want := api.ErrNone
		if n >= 0 && n < 6 {
			want = api.OK
		}
		for _, pair := range [][2]int{{n, 0}, {5, n}, {n, n}} {
			calls := areaCalls(f, 5, pair[0], pair[1])
			for _, name := range []string{"Joined", "Gap"} {
				if isNothing, e := calls[name](); e != want || e != api.OK && !isNothing {
					t.Errorf("%s of %v: error %d, want %d", name, pair, e, want)
				}
			}
		}
	}
	for _, pair := range [][2]int{{0, 6}, {6, 0}, {6, 6}, {-1, 5}, {5, -1}} {
		calls := areaCalls(f, 5, pair[0], pair[1])
		delete(calls, "Areas")
		wantError(t, fmt.Sprint("no pixel ", pair), calls, api.ErrNone)
	}
	wantSame(t, "the last pixel", []int{joined(t, f, 5, 5, 5), gap(t, f, 5, 0, 5)}, []int{cell.Open, 4})
}

// tries tries all truths of a field with few pixels that may be in: for each of
// them it calls with those that are in.
func tries(f api.Field, level int, call func(in []bool)) {
	in, open := wantIn(f, level), []int{}
	for p, may := range wantMay(f, level) {
		if may && !in[p] {
			open = append(open, p)
		}
	}
	for bits := range 1 << len(open) {
		truth := slices.Clone(in)
		for i, p := range open {
			truth[p] = bits>>i&1 == 1
		}
		call(truth)
	}
}

// openField returns a field in which not too many pixels may be in only.
func openField(n *noise) api.Field {
	for {
		f := n.field(n.grid(4))
		count := 0
		for p, may := range wantMay(f, level) {
			if may && !wantIn(f, level)[p] {
				count++
			}
		}
		if count <= 7 {
			return f
		}
	}
}

// P8.6: whatever is in in truth, parts lie within areas, and kernels within
// parts; what is joined surely is, what surely is not is not, and of what is
// open both happens; and at least as many pixels are in, as the gap says.
func TestTruth(t *testing.T) {
	for seed := range 200 {
		f := openField(&noise{state: uint64(1000 + seed)})
		l := areas(t, f, level)
		count := len(f.Vals)
		isJoined, isApart, least := square(count), square(count), map[[2]int]int{}
		tries(f, level, func(in []bool) {
			wantPartsWithin(t, f, l, wantParts(f.Grid, in))
			extra := 0
			for p := range in {
				if in[p] && f.Vals[p].Lo < level {
					extra++
				}
			}
			for p, ways := range wantWays(f.Grid, in) {
				for q, leads := range ways {
					if !leads {
						isApart[p][q] = true
						continue
					}
					isJoined[p][q] = true
					if most, exists := least[[2]int{p, q}]; !exists || extra < most {
						least[[2]int{p, q}] = extra
					}
				}
			}
		})
		for p := range count {
			for q := range count {
				want, few := cell.Open, least[[2]int{p, q}]
				if !isApart[p][q] {
					want = cell.Yes
				} else if !isJoined[p][q] {
					want, few = cell.No, -1
				}
				wantSame(t, fmt.Sprintf("Joined of %d and %d of %v", p, q, f), joined(t, f, level, p, q), want)
				wantSame(t, fmt.Sprintf("Gap of %d and %d of %v", p, q, f), gap(t, f, level, p, q), few)
			}
		}
		if t.Failed() {
			return
		}
	}
}

// wantPartsWithin checks that each part lies within one area, and each kernel
// within one part.
func wantPartsWithin(t *testing.T, f api.Field, l []cell.Area, parts [][]int) {
	t.Helper()
	for _, part := range parts {
		if !slices.ContainsFunc(l, func(a cell.Area) bool { return isWithin(part, a.Pixels) }) {
			t.Errorf("the part %v lies within no area of %v", part, f)
		}
	}
	for _, a := range l {
		for _, kernel := range a.Kernels {
			if !slices.ContainsFunc(parts, func(part []int) bool { return isWithin(kernel, part) }) {
				t.Errorf("the kernel %v lies within no part of %v", kernel, f)
			}
		}
	}
}

// P8.6: the values of what is in have a sum within that of the area, which
// reaches both ends.
func TestTrueSums(t *testing.T) {
	for seed := range 300 {
		n := &noise{state: uint64(2000 + seed)}
		f := n.field(n.grid(7))
		least, most := make([]int, len(f.Vals)), make([]int, len(f.Vals))
		for p, s := range f.Vals {
			least[p], most[p] = s.Lo, s.Hi
		}
		for i, a := range areas(t, f, level) {
			for range 20 {
				if sum := sumOf(a, n.truth(f)); sum < a.Sum.Lo || sum > a.Sum.Hi {
					t.Fatalf("the area %d of %v: %d", i, f, sum)
				}
			}
			wantSame(t, "the least and the greatest sum", span(sumOf(a, least), sumOf(a, most)), a.Sum)
		}
	}
}

// sumOf returns the sum of the values of what is in of an area.
func sumOf(a cell.Area, truth []int) int {
	sum := 0
	for _, p := range a.Pixels {
		if truth[p] >= level {
			sum += truth[p]
		}
	}
	return sum
}

// P8.7: of spans within others, areas lie within areas, and kernels have kernels
// within them; and what was not open remains.
func TestNarrower(t *testing.T) {
	closed := 0
	for seed := range 150 {
		n := &noise{state: uint64(3000 + seed)}
		wide := n.field(n.grid(6))
		narrow := n.narrower(wide)
		outer, inner := areas(t, wide, level), areas(t, narrow, level)
		for _, a := range inner {
			if !slices.ContainsFunc(outer, func(b cell.Area) bool { return isWithin(a.Pixels, b.Pixels) }) {
				t.Fatalf("the area %v of %v lies within none of %v", a, narrow, wide)
			}
		}
		for _, kernel := range kernels(outer) {
			if !slices.ContainsFunc(kernels(inner), func(l []int) bool { return isWithin(kernel, l) }) {
				t.Fatalf("the kernel %v of %v lies within none of %v", kernel, wide, narrow)
			}
		}
		for p := range wide.Vals {
			for q := range wide.Vals {
				was, is := joined(t, wide, level, p, q), joined(t, narrow, level, p, q)
				if was != cell.Open && is != was {
					t.Fatalf("Joined of %d and %d: %d of %v, and %d of %v", p, q, was, wide, is, narrow)
				}
				if was == cell.Open && is != was {
					closed++
				}
			}
		}
	}
	if closed < 500 {
		t.Errorf("only %d answers were open", closed)
	}
}

func kernels(l []cell.Area) [][]int {
	var all [][]int
	for _, a := range l {
		all = append(all, a.Kernels...)
	}
	return all
}
