package mosaic_test

import (
	"fmt"
	"strings"
	"testing"

	"radome/api"
	"radome/mosaic"
)

// wantCheck checks that Check, New and Restore return the same error of a network.
func wantCheck(t *testing.T, what string, s mosaic.Spec, want api.Errno) {
	t.Helper()
	wantErr(t, "Check, "+what, mosaic.Check(s), want)
	n, e := mosaic.New(s)
	wantErr(t, "New, "+what, e, want)
	if (n != nil) != (want == api.OK) {
		t.Errorf("New, %s: error %d, and the node %v", what, e, n)
	}
	n, e = mosaic.Restore(s, sealed(piecesOf(0)))
	wantErr(t, "Restore, "+what, e, want)
	if (n != nil) != (want == api.OK) {
		t.Errorf("Restore, %s: error %d, and the node %v", what, e, n)
	}
}

// radarNames returns so many different ones.
func radarNames(count int) []string {
	var l []string
	for i := range count {
		l = append(l, string(rune('a'+i%26))+strings.Repeat("x", i/26))
	}
	return l
}

// P11.1: the numbers of a network.
func TestCheckNumbers(t *testing.T) {
	check := func(change func(s *mosaic.Spec)) api.Errno {
		s := networkS()
		change(&s)
		return mosaic.Check(s)
	}
	checkLimits(t, "Age", 1, maxAge, func(n int) api.Errno { return check(func(s *mosaic.Spec) { s.Age = n }) })
	checkSpans(t, "Earth", minEarth, maxEarth, func(x api.Span) api.Errno { return check(func(s *mosaic.Spec) { s.Earth = x }) })
	for i := range 2 {
		checkSpans(t, fmt.Sprint("Offset ", i), -maxOffset, maxOffset, func(x api.Span) api.Errno {
			return check(func(s *mosaic.Spec) { s.Radars[i].Offset = x })
		})
	}
	checkLimits(t, "the place of the grid", -1048576, 1048576, func(n int) api.Errno { return check(func(s *mosaic.Spec) { s.Grid.X = n }) })
	checkLimits(t, "columns", 1, 64, func(n int) api.Errno { return check(func(s *mosaic.Spec) { s.Grid.Wide = n }) })
	checkLimits(t, "rows", 1, 64, func(n int) api.Errno { return check(func(s *mosaic.Spec) { s.Grid.High = n }) })
	checkLimits(t, "the step of a radar", 50, 2000, func(n int) api.Errno { return check(func(s *mosaic.Spec) { s.Radars[1].Site.Step = n }) })
}

// P11.1: how many radars there are, and their names.
func TestCheckRadars(t *testing.T) {
	for _, x := range []struct {
		what string
		l    []string
		want api.Errno
	}{
		{"no radars", nil, api.ErrEmpty},
		{"one", radarNames(1), api.OK},
		{"32", radarNames(32), api.OK},
		{"33", radarNames(33), api.ErrMany},
		{"33 with the same name", strings.Split(strings.Repeat("a", 33), ""), api.ErrMany},
		{"names of which one begins another one", []string{"a", "ab", "abc", "b"}, api.OK},
		{"these, the longest one first", []string{"abc", "ab", "a"}, api.OK},
		{"two with the same name", []string{"a", "a"}, api.ErrHave},
		{"two with the same name, far apart", append(radarNames(31), "a"), api.ErrHave},
		{"a name of 12 bytes", []string{"abcdefghijk_"}, api.OK},
		{"a name of 13 bytes", []string{"abcdefghijkl_"}, api.ErrName},
		{"no name", []string{""}, api.ErrName},
		{"no name behind two", []string{"a", "b", "B"}, api.ErrName},
		{"two without a name", []string{"a", "", ""}, api.ErrName},
	} {
		wantCheck(t, x.what, networkOf(x.l...), x.want)
	}
	s := networkOf()
	s.Radars = []mosaic.Radar{}
	wantCheck(t, "an empty list", s, api.ErrEmpty)
}

// P11.1: of several errors the one counts that is named first; that of the first
// radar with an error ahead of those of others.
func TestCheckOrder(t *testing.T) {
	wrongs := []struct {
		what   string
		change func(s *mosaic.Spec)
		want   api.Errno
	}{
		{"the offset of the second radar", func(s *mosaic.Spec) { s.Radars[1].Offset = span(1, 0) }, api.ErrRange},
		{"its name", func(s *mosaic.Spec) { s.Radars[1].Site.Name = "a" }, api.ErrHave},
		{"its place", func(s *mosaic.Spec) { s.Radars[1].Site.Z = -1 }, api.ErrRange},
		{"no name", func(s *mosaic.Spec) { s.Radars[1].Site.Name = "" }, api.ErrName},
		{"the offset of the first one", func(s *mosaic.Spec) { s.Radars[0].Offset = span(0, maxOffset+1) }, api.ErrRange},
		{"the name of the first one", func(s *mosaic.Spec) { s.Radars[0].Site.Name = "A" }, api.ErrName},
		{"too many", func(s *mosaic.Spec) { s.Radars = append(s.Radars, networkOf(radarNames(31)...).Radars...) }, api.ErrMany},
		{"none", func(s *mosaic.Spec) { s.Radars = nil }, api.ErrEmpty},
		{"the earth", func(s *mosaic.Spec) { s.Earth = span(minEarth-1, maxEarth) }, api.ErrRange},
		{"the age", func(s *mosaic.Spec) { s.Age = 0 }, api.ErrRange},
		{"the grid", func(s *mosaic.Spec) { s.Grid.Size = 0 }, api.ErrRange},
	}
	s := networkS()
	wantCheck(t, "none", s, api.OK)
	for _, wrong := range wrongs {
		wrong.change(&s)
		wantCheck(t, wrong.what+", and all ahead of it", s, wrong.want)
		alone := networkS()
		wrong.change(&alone)
		wantCheck(t, wrong.what, alone, wrong.want)
	}
}

// P11.1: the name that another radar has counts ahead of the offset, and behind
// the site.
func TestCheckRadarOrder(t *testing.T) {
	s := networkOf("a", "b", "a")
	s.Radars[2].Offset = span(1, 0)
	wantCheck(t, "the name and the offset", s, api.ErrHave)
	s.Radars[2].Site.Width = 9
	wantCheck(t, "the site besides", s, api.ErrRange)
	s.Radars[1].Site.Name = "_"
	wantCheck(t, "an earlier one", s, api.ErrName)
}

// P11.1: a new node has no messages.
func TestNew(t *testing.T) {
	n := nodeOf(t, networkS())
	wantAnswers(t, "a new node", answers(n, 100), answers(&ledger{spec: networkS()}, 100))
	wantSame(t, "Keys", n.Keys(), []mosaic.Key{})
	wantSame(t, "Contested", n.Contested(), []mosaic.Key{})
	wantSame(t, "Missing", missing(t, n), []mosaic.Message{})
	wantSame(t, "Horizon", n.Horizon(), 0)
	for p, x := range mapAt(t, n, 0) {
		wantSame(t, fmt.Sprint("the pixel ", p), shown(x), "gap")
	}
}
