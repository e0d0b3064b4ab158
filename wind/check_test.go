package wind_test

import (
	"fmt"
	"testing"

	"radome/api"
	"radome/wind"
)

// P10.1: sights that are valid, up to the ends of all ranges.
func TestCheckValid(t *testing.T) {
	for _, x := range []wind.Sight{
		sight(1, 0, 1, 0, 0), sight(0, -1, 1, -1, 1), sight(-1, 0, 1, 7, 7), sight(0, 1, 1, -9, -8), sight(2, 0, 2, 0, 0),
		sight(maxLength, 0, maxLength, 0, 0), sight(0, -maxLength, maxLength, 0, 0), sight(-38880, 51840, maxLength, 0, 0),
		sight(3, 4, 5, -maxAlong, maxAlong), sight(3, -4, 5, maxAlong, maxAlong), sight(-3, -4, 5, -maxAlong, -maxAlong),
	} {
		wantErr(t, fmt.Sprintf("Check of %+v", x), wind.Check(x), api.OK)
	}
	for n := range 180 {
		for k := range n {
			x := sight(-2*n*k, k*k-n*n, n*n+k*k, 0, 0)
			wantErr(t, fmt.Sprintf("Check of %+v", x), wind.Check(x), api.OK)
		}
	}
}

// P10.1: sights that are not.
func TestCheckErrors(t *testing.T) {
	for _, x := range badSights() {
		wantErr(t, fmt.Sprintf("Check of %+v", x), wind.Check(x), api.ErrRange)
	}
	wantRange(t, "Lo up to 400,000,", -maxAlong, maxAlong, func(n int) api.Errno { return wind.Check(sight(1, 0, 1, n, maxAlong)) })
	wantRange(t, "Hi from -400,000,", -maxAlong, maxAlong, func(n int) api.Errno { return wind.Check(sight(1, 0, 1, -maxAlong, n)) })
	wantRange(t, "the length", 1, maxLength, func(n int) api.Errno { return wind.Check(sight(n, 0, n, 0, 0)) })
}

// P10.1: of all vectors with small parts exactly those are valid that have the
// length that is stated.
func TestCheckVectors(t *testing.T) {
	valid := 0
	for x := -30; x <= 30; x++ {
		for y := -30; y <= 30; y++ {
			for length := -2; length <= 45; length++ {
				want := api.ErrRange
				if length > 0 && x*x+y*y == length*length {
					want = api.OK
					valid++
				}
				wantErr(t, fmt.Sprint("Check of ", x, y, length), wind.Check(sight(x, y, length, 0, 0)), want)
			}
		}
	}
	if valid < 150 {
		t.Errorf("%d are valid", valid)
	}
}

// listCalls are calls of all functions that get a list of sights; they report
// whether they returned nothing, and their error.
func listCalls(l []wind.Sight, m, n int) map[string]func() (bool, api.Errno) {
	return map[string]func() (bool, api.Errno){
		"Agree":   func() (bool, api.Errno) { ok, e := wind.Agree(l, m, n); return !ok, e },
		"Bounds":  func() (bool, api.Errno) { w, e := wind.Bounds(l); return w == wind.Wind{}, e },
		"Along":   func() (bool, api.Errno) { s, e := wind.Along(l, m, n, m); return s == api.Span{}, e },
		"Blame":   func() (bool, api.Errno) { set, e := wind.Blame(l); return len(set) == 0, e },
		"Strain":  func() (bool, api.Errno) { d, e := wind.Strain(l); return d == 0, e },
		"Without": func() (bool, api.Errno) { set, e := wind.Without(l, m); return len(set) == 0, e },
		"Front":   func() (bool, api.Errno) { from, to, e := wind.Front(l); return from == 0 && to == 0, e },
	}
}

// P10.3 to P10.5: the error of a list comes first; that there are too many comes
// ahead of one that is not valid.
func TestErrorOfList(t *testing.T) {
	check := func(what string, l []wind.Sight, want api.Errno) {
		t.Helper()
		for _, m := range []int{0, 1, -1, 3, maxWind + 1} {
			for name, call := range listCalls(l, m, 7) {
				isNothing, e := call()
				wantErr(t, what+", "+name, e, want)
				if !isNothing {
					t.Errorf("%s, %s: an error, and a result", what, name)
				}
			}
		}
	}
	for _, bad := range badSights() {
		what := fmt.Sprintf("%+v", bad)
		check(what, list(bad), api.ErrRange)
		check("conflicts and "+what, list(sightA(), sightB(), sightC(), sightD(), bad), api.ErrRange)
		check(what+" and others", append(list(bad), times(70, sightA())...), api.ErrRange)
		check("359 and "+what, append(times(359, sightA()), bad), api.ErrRange)
		check("360 and "+what, append(times(360, sightA()), bad), api.ErrMany)
		check(what+" and 360", append(list(bad), times(360, sightA())...), api.ErrMany)
	}
	check("361", times(361, sightA()), api.ErrMany)
	check("1000, none of which is valid", times(1000, wind.Sight{}), api.ErrMany)
}

// P10.3 to P10.5: 360 sights are not too many.
func TestMostSights(t *testing.T) {
	l := times(360, sightA())
	wantSame(t, "Bounds", bounds(t, l), wind.Wind{U: span(5000, 6000), V: span(-maxWind, maxWind)})
	wantSame(t, "Along", along(t, l, direction{-1, 0, 1}), span(-6000, -5000))
	wantSame(t, "Agree", agrees(t, l, 5000, 1), true)
	wantSame(t, "Strain", strain(t, l), 0)
	_, e := wind.Blame(l)
	wantErr(t, "Blame", e, api.ErrNone)
	set, e := wind.Without(l, 0)
	wantErr(t, "Without", e, api.OK)
	wantSame(t, "Without", set, []int{})
	_, _, e = wind.Front(l)
	wantErr(t, "Front", e, api.ErrMany)
}
