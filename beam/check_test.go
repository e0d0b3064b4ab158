package beam_test

import (
	"math"
	"strings"
	"testing"

	"radome/api"
	"radome/beam"
)

// P1.1: a name has from 1 to 12 bytes: a letter, then letters, digits and '_'.
func TestName(t *testing.T) {
	for n := range 30 {
		if got, want := beam.Name(strings.Repeat("k", n)), n >= 1 && n <= 12; got != want {
			t.Errorf("name of %d bytes: %v", n, got)
		}
	}
	for c := range 256 {
		b := string([]byte{byte(c)})
		letter := strings.Contains("abcdefghijklmnopqrstuvwxyz", b)
		if beam.Name(b) != letter || beam.Name(b+"a") != letter {
			t.Errorf("name that begins with the byte %d", c)
		}
		inside := letter || strings.Contains("0123456789_", b)
		if beam.Name("a"+b) != inside || beam.Name("ab"+b+"c") != inside || beam.Name("abcdefghijk"+b) != inside {
			t.Errorf("name with the byte %d", c)
		}
	}
	for _, s := range []string{"é", "aé", "a\n", "\na", "a\x00"} {
		if beam.Name(s) {
			t.Errorf("Name(%q)", s)
		}
	}
}

// limits of a number: what is beyond them is out of range.
type limits struct {
	what        string
	least, most int
	set         func(n int)
}

func checkLimits(t *testing.T, l limits, check func() api.Errno) {
	t.Helper()
	for n, want := range map[int]api.Errno{
		l.least: api.OK, l.most: api.OK, (l.least + l.most) / 2: api.OK,
		l.least - 1: api.ErrRange, l.most + 1: api.ErrRange, math.MinInt: api.ErrRange, math.MaxInt: api.ErrRange,
	} {
		l.set(n)
		if e := check(); e != want {
			t.Errorf("%s %d: error %d, want %d", l.what, n, e, want)
		}
	}
}

// P1.1: each field of a site by itself, from its least to its greatest value.
func TestCheckSiteRanges(t *testing.T) {
	s := example()
	check := func() api.Errno { return beam.CheckSite(s) }
	for _, l := range []limits{
		{"X", -1048576, 1048576, func(n int) { s.X = n }},
		{"Y", -1048576, 1048576, func(n int) { s.Y = n }},
		{"Z", 0, 20000, func(n int) { s.Z = n }},
		{"Rose", 1, 90, func(n int) { s.Rose = n }},
		{"Gates", 1, 200, func(n int) { s.Gates = n }},
		{"Step", 50, 2000, func(n int) { s.Step = n }},
		{"Width", 0, 8, func(n int) { s.Width = n }},
	} {
		s = example()
		checkLimits(t, l, check)
	}
	for _, s := range sites() {
		wantErr(t, "valid site "+s.Name, beam.CheckSite(s), api.OK)
	}
}

// P1.1: ErrName comes first.
func TestCheckSiteOrder(t *testing.T) {
	for _, name := range []string{"", "A", "abcdefghijklm"} {
		s := example()
		s.Name = name
		wantErr(t, "site with the name "+name, beam.CheckSite(s), api.ErrName)
		s.X, s.Gates = math.MaxInt, 0
		wantErr(t, "site with the name and more", beam.CheckSite(s), api.ErrName)
	}
	wantErr(t, "the zero site", beam.CheckSite(api.Site{}), api.ErrName)
}

// P1.1: each field of a grid by itself.
func TestCheckGridRanges(t *testing.T) {
	start := api.Grid{X: 1, Y: 2, Size: 3, Wide: 4, High: 5}
	g := start
	check := func() api.Errno { return beam.CheckGrid(g) }
	for _, l := range []limits{
		{"X", -1048576, 1048576, func(n int) { g.X = n }},
		{"Y", -1048576, 1048576, func(n int) { g.Y = n }},
		{"Size", 1, 10000, func(n int) { g.Size = n }},
		{"Wide", 1, 64, func(n int) { g.Wide = n }},
		{"High", 1, 64, func(n int) { g.High = n }},
	} {
		g = start
		checkLimits(t, l, check)
	}
	wantErr(t, "the zero grid", beam.CheckGrid(api.Grid{}), api.ErrRange)
}

// P1.1: the error of the grid, then the number of spans, then each span.
func TestCheckField(t *testing.T) {
	good := api.Grid{Size: 1, Wide: 3, High: 2}
	bad := api.Grid{Size: 0, Wide: 3, High: 2}
	full := func(last api.Span) []api.Span {
		return []api.Span{{}, {Hi: 1 << 30}, pt(1 << 30), {Lo: 3, Hi: 4}, pt(0), last}
	}
	out := api.Span{Lo: 5, Hi: 4}
	for i, x := range []struct {
		grid api.Grid
		vals []api.Span
		want api.Errno
	}{
		{good, full(pt(7)), api.OK},
		{good, full(api.Span{Lo: 4, Hi: 4}), api.OK},
		{good, full(out), api.ErrRange},
		{good, full(api.Span{Lo: -1, Hi: 4}), api.ErrRange},
		{good, full(pt(-1)), api.ErrRange},
		{good, full(api.Span{Lo: 0, Hi: 1<<30 + 1}), api.ErrRange},
		{good, full(pt(1<<30 + 1)), api.ErrRange},
		{good, full(api.Span{Lo: math.MinInt, Hi: math.MaxInt}), api.ErrRange},
		{good, full(api.Span{Lo: math.MaxInt, Hi: math.MinInt}), api.ErrRange},
		{good, append([]api.Span{out}, full(pt(0))[1:]...), api.ErrRange},
		{good, full(pt(0))[:5], api.ErrShape},
		{good, append(full(pt(0)), pt(0)), api.ErrShape},
		{good, nil, api.ErrShape},
		{good, []api.Span{}, api.ErrShape},
		{good, []api.Span{out}, api.ErrShape},
		{bad, full(pt(0)), api.ErrRange},
		{bad, nil, api.ErrRange},
		{api.Grid{Size: 1, Wide: 65, High: 1}, []api.Span{out}, api.ErrRange},
		{api.Grid{Size: 1, Wide: math.MinInt, High: 2}, nil, api.ErrRange},
	} {
		if e := beam.CheckField(api.Field{Grid: x.grid, Vals: x.vals}); e != x.want {
			t.Errorf("field %d: error %d, want %d", i, e, x.want)
		}
	}
	most := api.Field{Grid: api.Grid{Size: 10000, Wide: 64, High: 64}, Vals: make([]api.Span, 4096)}
	wantErr(t, "the largest field", beam.CheckField(most), api.OK)
	most.Vals[4095] = out
	wantErr(t, "the last span of the largest field", beam.CheckField(most), api.ErrRange)
}

// call is a function with a site, and perhaps with a field: it reports its
// error, and whether all other results are zero values.
type call func(s api.Site, tilt int, f api.Field, n int) (zero bool, e api.Errno)

func calls() map[string]call {
	bad := pt(0)
	return map[string]call{
		"Ground": func(s api.Site, tilt int, f api.Field, n int) (bool, api.Errno) {
			r, e := beam.Ground(s, tilt, n)
			return r == api.Span{}, e
		},
		"Height": func(s api.Site, tilt int, f api.Field, n int) (bool, api.Errno) {
			r, e := beam.Height(s, tilt, bad, n)
			return r == api.Span{}, e
		},
		"Band": func(s api.Site, tilt int, f api.Field, n int) (bool, api.Errno) {
			r, e := beam.Band(s, tilt, bad, n)
			return r == api.Span{}, e
		},
		"Place": func(s api.Site, tilt int, f api.Field, n int) (bool, api.Errno) {
			x, y, e := beam.Place(s, tilt, n, n)
			return x == 0 && y == 0, e
		},
		"Find": func(s api.Site, tilt int, f api.Field, n int) (bool, api.Errno) {
			ray, gate, e := beam.Find(s, tilt, n, n)
			return ray == 0 && gate == 0, e
		},
		"View": func(s api.Site, tilt int, f api.Field, n int) (bool, api.Errno) {
			l, e := beam.View(s, tilt, f.Grid)
			return len(l) == 0, e
		},
		"Blocked": func(s api.Site, tilt int, f api.Field, n int) (bool, api.Errno) {
			l, e := beam.Blocked(s, tilt, bad, f, n)
			return len(l) == 0, e
		},
	}
}

// P1.1: the error of the site comes ahead of all others.
func TestSiteComesFirst(t *testing.T) {
	shapeless := api.Field{Grid: api.Grid{Size: 1, Wide: 1, High: 1}}
	nameless, wide := example(), example()
	nameless.Name, nameless.Rose = "", 0
	wide.Width = 9
	for name, f := range calls() {
		for _, field := range []api.Field{{}, shapeless} {
			for _, tilt := range []int{-100, 0, 1000} {
				if zero, e := f(nameless, tilt, field, -1<<40); e != api.ErrName || !zero {
					t.Errorf("%s of a site without a name: %d", name, e)
				}
				if zero, e := f(wide, tilt, field, -1<<40); e != api.ErrRange || !zero {
					t.Errorf("%s of a site that is too wide: %d", name, e)
				}
			}
		}
	}
}

// P1.1: the error of the field comes next, and then the others.
func TestFieldComesSecond(t *testing.T) {
	g := api.Grid{Size: 1, Wide: 1, High: 1}
	for i, x := range []struct {
		f    api.Field
		want api.Errno
	}{
		{api.Field{Grid: g}, api.ErrShape},
		{api.Field{Grid: g, Vals: []api.Span{{}, {}}}, api.ErrShape},
		{api.Field{}, api.ErrRange},
		{api.Field{Grid: g, Vals: []api.Span{{Lo: 1}}}, api.ErrRange},
	} {
		if l, e := beam.Blocked(example(), 257, pt(0), x.f, -1); e != x.want || len(l) != 0 {
			t.Errorf("field %d: error %d, want %d", i, e, x.want)
		}
	}
}
