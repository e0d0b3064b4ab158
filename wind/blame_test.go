package wind_test

import (
	"fmt"
	"testing"

	"radome/api"
	"radome/wind"
)

// threeSights are in conflict, and no two of them are: they are lines of winds
// around a small triangle.
func threeSights() []wind.Sight {
	return list(sight(1, 0, 1, 31, 90), sight(0, 1, 1, 40, 90), sight(3, 4, 5, 0, 50))
}

// P10.4: conflicts of one sight, of two and of three, of which the first one
// counts, and the lesser one.
func TestBlame(t *testing.T) {
	beyond := sight(1, 0, 1, maxWind+1, maxAlong)
	west := sight(-1, 0, 1, 100, 200)
	three := threeSights()
	for _, x := range []struct {
		what string
		l    []wind.Sight
		want []int
		e    api.Errno
	}{
		{"no sights", nil, nil, api.ErrNone},
		{"one sight", list(sightA()), nil, api.ErrNone},
		{"sights that agree", list(sightA(), sightB(), sightC()), nil, api.ErrNone},
		{"360 sights that agree", times(360, sightA()), nil, api.ErrNone},
		{"one alone", list(beyond), []int{0}, api.OK},
		{"one behind others", list(sightA(), sightB(), beyond), []int{2}, api.OK},
		{"one behind a pair, and another one", list(sightA(), west, beyond, sightB(), beyond), []int{2}, api.OK},
		{"a pair", list(sightB(), sightA(), sightB(), west), []int{1, 3}, api.OK},
		{"two pairs", list(west, sightB(), sightA(), sightA(), west), []int{0, 2}, api.OK},
		{"two pairs within each other", list(sightB(), sight(0, 1, 1, 5, 6), sightA(), west), []int{0, 1}, api.OK},
		{"two pairs across each other", list(sightB(), sightA(), sight(0, 1, 1, 5, 6), west), []int{0, 2}, api.OK},
		{"a pair behind three", append(threeSights(), sight(0, 1, 1, 300, 400)), []int{1, 3}, api.OK},
		{"three", three, []int{0, 1, 2}, api.OK},
		{"three with others between them", list(sight(1, 0, 1, 0, 99), three[2], sight(0, 1, 1, 0, 99), three[0], sight(4, 3, 5, 0, 99), three[1]), []int{1, 3, 5}, api.OK},
		{"three, each of them twice", list(three[0], three[0], three[1], three[1], three[2], three[2]), []int{0, 2, 4}, api.OK},
		{"three with one MaxWind", list(sight(4, 3, 5, 100000, maxAlong), sightB(), sight(1, 0, 1, 100, maxAlong)), []int{0, 1}, api.OK},
		{"of four lines the first three", list(sight(1, 0, 1, 30, 30), sight(0, 1, 1, 40, 40), sight(3, 4, 5, 49, 49), sight(4, 3, 5, 47, 47)), []int{0, 1, 2}, api.OK},
		{"of four lines others", list(sight(1, 0, 1, 30, 30), sight(0, 1, 1, 40, 40), sight(3, 4, 5, 50, 50), sight(4, 3, 5, 47, 47)), []int{0, 1, 3}, api.OK},
	} {
		set, e := wind.Blame(x.l)
		wantErr(t, x.what, e, x.e)
		wantSame(t, x.what, set, x.want)
	}
}

// P10.4: conflicts at the ends of the longest lists.
func TestBlameOfMany(t *testing.T) {
	three := threeSights()
	wide := sight(3, -4, 5, -1000, 1000)
	for _, x := range []struct {
		what string
		at   [3]int
	}{
		{"at the begin", [3]int{0, 1, 2}}, {"at the end", [3]int{357, 358, 359}}, {"far apart", [3]int{0, 180, 359}}, {"in the middle", [3]int{100, 101, 300}},
	} {
		l := times(360, wide)
		for i, at := range x.at {
			l[at] = three[i]
		}
		set, e := wind.Blame(l)
		wantErr(t, x.what, e, api.OK)
		wantSame(t, x.what, set, x.at)
	}
	l := times(360, wide)
	l[359] = sight(-3, 4, 5, 1001, 1002)
	set, e := wind.Blame(l)
	wantErr(t, "a pair", e, api.OK)
	wantSame(t, "a pair", set, []int{0, 359})
	l[358] = sight(3, -4, 5, -1e5-4e4-1e4-2e4, -168001)
	set, e = wind.Blame(l)
	wantErr(t, "one", e, api.OK)
	wantSame(t, "one", set, []int{358})
}

// P10.4, P10.8: blame as the chapter defines it.
func TestBlameByDefinition(t *testing.T) {
	sizes := [4]int{}
	for seed := range 1500 {
		n := &noise{state: uint64(7000 + seed)}
		l := n.any(n.of(1, 3, 5, 7), n.of(1, 5, 100, 1000))
		want, wantE := wantBlame(l)
		set, e := wind.Blame(l)
		wantErr(t, fmt.Sprintf("Blame of %+v", l), e, wantE)
		wantSame(t, fmt.Sprintf("Blame of %+v", l), set, want)
		sizes[len(set)]++
	}
	if sizes[1] < 5 || sizes[2] < 100 || sizes[3] < 50 {
		t.Errorf("sizes: %v", sizes)
	}
}

// P10.5: what is left out, and what is not.
func TestWithout(t *testing.T) {
	beyond := sight(1, 0, 1, maxWind+1, maxAlong)
	west, north := sight(-1, 0, 1, 100, 200), sight(0, 1, 1, 5, 6)
	three := threeSights()
	none := []int{-1} // stands for ErrConflict
	for _, x := range []struct {
		what           string
		l              []wind.Sight
		zero, one, two []int
	}{
		{"no sights", nil, nil, nil, nil},
		{"one sight", list(sightA()), nil, nil, nil},
		{"sights that agree", list(sightA(), sightB(), sightC()), nil, nil, nil},
		{"one that is wrong", list(beyond), none, []int{0}, []int{0}},
		{"one that is wrong behind others", list(sightA(), sightB(), beyond), none, []int{2}, []int{2}},
		{"a pair", list(sightB(), sightA(), west), none, []int{1}, []int{1}},
		{"one against two", list(sightA(), west, sightA()), none, []int{1}, []int{1}},
		{"two pairs", list(sightA(), north, west, sightB()), none, none, []int{0, 1}},
		{"two pairs, with a third sight of one", list(sightA(), north, west, sightB(), sightA()), none, none, []int{1, 2}},
		{"two pairs, with a third sight of each", list(sightA(), north, west, sightB(), sightA(), sightB()), none, none, []int{1, 2}},
		{"two against two", list(sightB(), sightA(), west, west, sightA()), none, none, []int{1, 4}},
		{"three against three", list(sightA(), sightA(), sightA(), west, west, west), none, none, none},
		{"three", three, none, []int{0}, []int{0}},
		{"three, each of them twice", list(three[0], three[1], three[2], three[2], three[1], three[0]), none, none, []int{0, 5}},
		{"two that are wrong, each alone", list(sightA(), beyond, sightB(), beyond), none, none, []int{1, 3}},
		{"three that are wrong, each alone", list(beyond, beyond, beyond), none, none, none},
	} {
		for most, want := range [][]int{x.zero, x.one, x.two} {
			what := fmt.Sprint(x.what, ", at most ", most)
			wantE := api.OK
			if len(want) > 0 && want[0] < 0 {
				want, wantE = nil, api.ErrConflict
			}
			set, e := wind.Without(x.l, most)
			wantErr(t, what, e, wantE)
			wantSame(t, what, set, want)
		}
	}
}

// P10.5: most is from 0 to 2, whether the sights agree or not.
func TestWithoutErrors(t *testing.T) {
	for _, l := range [][]wind.Sight{nil, list(sightA()), list(sightA(), sight(-1, 0, 1, 100, 200))} {
		wantRange(t, "most", 0, 2, func(n int) api.Errno {
			_, e := wind.Without(l, n)
			if e == api.ErrConflict && n == 0 {
				return api.OK
			}
			return e
		})
	}
}

// P10.5: one or two that are wrong in the longest lists.
func TestWithoutOfMany(t *testing.T) {
	for _, x := range []struct{ a, b int }{{0, 1}, {0, 359}, {358, 359}, {17, 200}} {
		n := &noise{state: uint64(x.a + 1000*x.b)}
		l := n.sights(360, 0, 1000, 1000, 2000, 10, 0)
		l[x.a] = n.seeing(direction{3, 4, 5}, 1500, 2600, 0)
		set, e := wind.Without(l, 2)
		wantErr(t, "one is wrong", e, api.OK)
		wantSame(t, "one is wrong", set, []int{x.a})
		l[x.b] = n.seeing(direction{-3, 4, 5}, 0, 1000, 0)
		set, e = wind.Without(l, 2)
		wantErr(t, "two are wrong", e, api.OK)
		wantSame(t, "two are wrong", set, []int{x.a, x.b})
		_, e = wind.Without(l, 1)
		wantErr(t, "two are wrong, and one left out", e, api.ErrConflict)
		l[100] = n.seeing(direction{-3, 4, 5}, 700, -1000, 0)
		_, e = wind.Without(l, 2)
		wantErr(t, "three are wrong", e, api.ErrConflict)
	}
}

// P10.5: Without as the chapter defines it.
func TestWithoutByDefinition(t *testing.T) {
	sizes, failed := [3]int{}, 0
	for seed := range 1500 {
		n := &noise{state: uint64(9000 + seed)}
		l := n.any(n.of(1, 3, 5, 8), n.of(1, 5, 100, 1000))
		for most := range 3 {
			want, wantE := wantWithout(l, most)
			set, e := wind.Without(l, most)
			wantErr(t, fmt.Sprintf("Without of %+v and %d", l, most), e, wantE)
			wantSame(t, fmt.Sprintf("Without of %+v and %d", l, most), set, want)
			if e != api.OK {
				failed++
			} else {
				sizes[len(set)]++
			}
		}
	}
	if min(sizes[1], sizes[2], failed) < 100 {
		t.Errorf("sizes: %v, failed: %d", sizes, failed)
	}
}

// P10.5: fronts at the ends of a list, several ones, and none.
func TestFront(t *testing.T) {
	west, north := sight(-1, 0, 1, 100, 200), sight(0, 1, 1, 5, 6)
	a, b := sightA(), sightB()
	for _, x := range []struct {
		what     string
		l        []wind.Sight
		from, to int
		e        api.Errno
	}{
		{"no sights", nil, 0, 0, api.ErrNone},
		{"one sight", list(a), 0, 0, api.ErrNone},
		{"sights that agree", list(a, b, sightC()), 0, 0, api.ErrNone},
		{"64 sights that agree", times(64, a), 0, 0, api.ErrNone},
		{"one that is wrong, alone", list(sight(1, 0, 1, maxWind+1, maxAlong)), 0, 0, api.ErrConflict},
		{"one that is wrong behind others", list(a, b, sight(1, 0, 1, maxWind+1, maxAlong)), 0, 0, api.ErrConflict},
		{"a pair", list(a, west), 0, 1, api.OK},
		{"the first one against others", list(a, west, west, b), 0, 1, api.OK},
		{"the last one against others", list(a, a, a, west), 0, 3, api.OK},
		{"one in the middle", list(a, b, a, west, a, b), 3, 4, api.OK},
		{"two in the middle", list(a, west, west, a), 1, 3, api.OK},
		{"two in the middle, with what agrees with both", list(a, b, west, b, west, a), 1, 5, api.OK},
		{"what agrees with both comes behind", list(a, west, b, b), 0, 1, api.OK},
		{"two halves", list(a, b, sight(1, 0, 1, -6000, -5000), sight(0, 1, 1, 3000, 4000)), 0, 2, api.OK},
		{"by turns", list(a, west, a, west), 0, 0, api.ErrConflict},
		{"three winds", list(a, west, sight(1, 0, 1, 50000, 60000)), 0, 0, api.ErrConflict},
		{"three that agree by two", threeSights(), 0, 1, api.OK},
		{"two pairs across each other", list(a, b, west, north), 0, 2, api.OK},
		{"two pairs within each other", list(a, b, north, west), 0, 2, api.OK},
		{"two pairs behind each other", list(a, west, b, north), 1, 3, api.OK},
	} {
		from, to, e := wind.Front(x.l)
		wantErr(t, x.what, e, x.e)
		wantSame(t, x.what, []int{from, to}, []int{x.from, x.to})
	}
}

// P10.5: 64 sights are not too many; 65 are, whether they agree or not.
func TestFrontOfMany(t *testing.T) {
	west := sight(-1, 0, 1, 100, 200)
	for _, x := range []struct{ from, to int }{{0, 1}, {0, 32}, {0, 63}, {1, 64}, {63, 64}, {20, 21}, {20, 50}} {
		l := times(64, sightA())
		for i := x.from; i < x.to; i++ {
			l[i] = west
		}
		from, to, e := wind.Front(l)
		wantErr(t, "64 sights", e, api.OK)
		if x.to == 64 { // then all before them are a front, which begins earlier
			wantSame(t, "64 sights", []int{from, to}, []int{0, x.from})
		} else {
			wantSame(t, "64 sights", []int{from, to}, []int{x.from, x.to})
		}
		from, to, e = wind.Front(append(l, west))
		wantErr(t, "65 sights", e, api.ErrMany)
		wantSame(t, "65 sights", []int{from, to}, []int{0, 0})
	}
	_, _, e := wind.Front(times(65, west))
	wantErr(t, "65 sights that agree", e, api.ErrMany)
}

// P10.5: Front as the chapter defines it.
func TestFrontByDefinition(t *testing.T) {
	found, failed := 0, 0
	for seed := range 1500 {
		n := &noise{state: uint64(11000 + seed)}
		l := n.any(n.of(1, 3, 5, 7), n.of(1, 5, 100, 1000))
		if n.upTo(1) == 0 { // one wind between two parts of another one
			l = append(l, n.any(n.of(0, 1, 3), 5)...)
			l = append(l, l[0])
		}
		from, to, wantE := wantFront(l)
		gotFrom, gotTo, e := wind.Front(l)
		wantErr(t, fmt.Sprintf("Front of %+v", l), e, wantE)
		wantSame(t, fmt.Sprintf("Front of %+v", l), []int{gotFrom, gotTo}, []int{from, to})
		switch {
		case e == api.ErrConflict:
			failed++
		case from > 0:
			found++
		}
	}
	if min(found, failed) < 100 {
		t.Errorf("found: %d, failed: %d", found, failed)
	}
}
