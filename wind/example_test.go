package wind_test

import (
	"testing"

	"radome/api"
	"radome/wind"
)

// The examples of the chapter.
func TestExamples(t *testing.T) {
	a, b, c, d := sightA(), sightB(), sightC(), sightD()
	all := span(-120000, 120000)
	wantSame(t, "Bounds of none", bounds(t, nil), wind.Wind{U: all, V: all})
	wantSame(t, "Bounds of A, B", bounds(t, list(a, b)), wind.Wind{U: span(5000, 6000), V: span(-1000, 0)})
	wantSame(t, "Along of A, B", along(t, list(a, b), direction{3, 4, 5}), span(2200, 3600))
	wantSame(t, "Bounds of A, B, C", bounds(t, list(a, b, c)), wind.Wind{U: span(5000, 5875), V: span(-1000, 0)})
	wantSame(t, "Agree of A, B, C with 5100, 0", agrees(t, list(a, b, c), 5100, 0), true)
	wantSame(t, "Agree of A, B, C with 5200, 0", agrees(t, list(a, b, c), 5200, 0), false)

	set, e := wind.Blame(list(a, b, c, d))
	wantErr(t, "Blame of A, B, C, D", e, api.OK)
	wantSame(t, "Blame of A, B, C, D", set, []int{0, 1, 3})
	set, e = wind.Blame(list(a, b, c))
	wantErr(t, "Blame of A, B, C", e, api.ErrNone)
	wantSame(t, "Blame of A, B, C", set, []int{})
	wantSame(t, "Strain of A, B, D", strain(t, list(a, b, d)), 2250)
	set, e = wind.Without(list(a, b, c, d), 1)
	wantErr(t, "Without of A, B, C, D and 1", e, api.OK)
	wantSame(t, "Without of A, B, C, D and 1", set, []int{3})
	set, e = wind.Without(list(a, b, c, d), 0)
	wantErr(t, "Without of A, B, C, D and 0", e, api.ErrConflict)
	wantSame(t, "Without of A, B, C, D and 0", set, []int{})

	for _, x := range []struct {
		l        []wind.Sight
		from, to int
		e        api.Errno
	}{
		{list(a, b, sight(1, 0, 1, -6000, -5000), sight(0, 1, 1, 3000, 4000)), 0, 2, api.OK},
		{list(a, b, d), 0, 1, api.OK},
		{list(a, b), 0, 0, api.ErrNone},
	} {
		from, to, e := wind.Front(x.l)
		wantErr(t, "Front", e, x.e)
		wantSame(t, "Front", []int{from, to}, []int{x.from, x.to})
	}
	wantSame(t, "Look, level", look(t, site(1), 0, 0, span(100, 200), span(0, 0)), sight(4, 3, 5, 100, 200))
	wantSame(t, "Look, tilted", look(t, site(1), 256, 0, span(300, 300), span(-30, 30)), sight(4, 3, 5, 460, 540))
}

// The constants of the chapter.
func TestConstants(t *testing.T) {
	got := []int{wind.MaxWind, wind.MaxLength, wind.MaxAlong, wind.MaxRise, wind.MaxSights, wind.MaxFront, wind.MaxOut}
	wantSame(t, "the limits", got, []int{120000, 64800, 400000, 50000, 360, 64, 2})
}
