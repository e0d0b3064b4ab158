package wind_test

import (
	"fmt"
	"math"
	"slices"
	"testing"

	"radome/api"
	"radome/wind"
)

const (
	maxWind   = 120000
	maxLength = 64800
	maxAlong  = 400000
	maxRise   = 50000
	maxSpeed  = 200000
	maxTilt   = 256
)

func span(lo, hi int) api.Span { return api.Span{Lo: lo, Hi: hi} }

func sight(x, y, length, lo, hi int) wind.Sight {
	return wind.Sight{X: x, Y: y, L: length, Speed: span(lo, hi)}
}

// The sights of the chapter's examples.
func sightA() wind.Sight { return sight(1, 0, 1, 5000, 6000) }
func sightB() wind.Sight { return sight(0, 1, 1, -1000, 0) }
func sightC() wind.Sight { return sight(4, 3, 5, 4000, 4100) }
func sightD() wind.Sight { return sight(3, 4, 5, 9000, 9000) }

func list(l ...wind.Sight) []wind.Sight { return l }

// times returns a list with a sight so many times.
func times(n int, x wind.Sight) []wind.Sight { return slices.Repeat(list(x), n) }

func site(rose int) api.Site {
	return api.Site{Name: "s", Z: 100, Rose: rose, Gates: 4, Step: 1000, Width: 1}
}

// badSites are some that are not valid, with their errors.
func badSites() map[string]struct {
	s api.Site
	e api.Errno
} {
	l := map[string]struct {
		s api.Site
		e api.Errno
	}{"no site": {api.Site{}, api.ErrName}}
	for name, change := range map[string]func(s *api.Site){
		"too far":   func(s *api.Site) { s.X = 1048577 },
		"too high":  func(s *api.Site) { s.Z = 20001 },
		"no rose":   func(s *api.Site) { s.Rose = 0 },
		"no gates":  func(s *api.Site) { s.Gates = 0 },
		"too wide":  func(s *api.Site) { s.Width = 9 },
		"too short": func(s *api.Site) { s.Step = 49 },
	} {
		s := site(2)
		change(&s)
		l[name] = struct {
			s api.Site
			e api.Errno
		}{s, api.ErrRange}
	}
	unnamed := site(0)
	unnamed.Name = "S"
	l["no name, no rose"] = struct {
		s api.Site
		e api.Errno
	}{unnamed, api.ErrName}
	return l
}

// badSpans are some that are not valid, or not within minus a number to it.
func badSpans(most int) []api.Span {
	return []api.Span{
		span(1, 0), span(-5, -6), span(most, most-1), span(-most-1, 0), span(0, most+1), span(most+1, most+1), span(-most-1, -most-1),
		span(-most-1, most+1), span(math.MinInt, 0), span(0, math.MaxInt), span(math.MaxInt, math.MinInt), span(math.MinInt, math.MaxInt),
	}
}

// badSights are some that are not valid.
func badSights() []wind.Sight {
	l := []wind.Sight{
		{}, sight(0, 0, 0, 0, 0), sight(0, 0, 1, 0, 0), sight(1, 1, 1, 0, 0), sight(1, 0, 2, 0, 0), sight(2, 0, 1, 0, 0), sight(4, 3, 4, 0, 0),
		sight(4, 3, 6, 0, 0), sight(3, 3, 5, 0, 0), sight(1, 0, -1, 0, 0), sight(-1, 0, -1, 0, 0), sight(3, -4, -5, 0, 0),
		sight(64801, 0, 64801, 0, 0), sight(0, -64801, 64801, 0, 0), sight(maxLength, 1, maxLength, 0, 0), sight(maxLength, 0, maxLength-1, 0, 0),
		sight(52000, 39000, 65000, 0, 0), // 13,000 times (4, 3) of 5
		sight(1<<32, 0, 1, 0, 0),         // whose square is 2 to the power of 64
		sight(1<<32, 1, 1, 0, 0),         // as wide as this
		sight(1, -1<<32, 1, 0, 0),        // and as high
		sight(3<<32, 4<<32, 5<<32, 0, 0), // as well as the length
		sight(1<<31, 1<<31, 1<<16, 0, 0), // or both together
		sight(math.MinInt, 0, 1, 0, 0),   //
		sight(math.MaxInt, 0, 1, 0, 0),   // whose square wraps around to 1
		sight(0, math.MaxInt, 1, 0, 0),   //
		sight(math.MinInt, 1, 1, 0, 0),   //
		sight(0, 0, math.MinInt, 0, 0),   //
		sight(1, 0, math.MaxInt, 0, 0),   //
		sight(math.MaxInt, 0, math.MaxInt, 0, 0),
	}
	for _, s := range badSpans(maxAlong) {
		l = append(l, wind.Sight{X: 4, Y: 3, L: 5, Speed: s})
	}
	return l
}

// extremes are numbers that no argument may be spoiled by.
func extremes() []int {
	return []int{math.MinInt, math.MinInt + 1, -1 << 32, -maxAlong, -1, 0, 1, 2, 3, 5, 64, 256, maxLength, maxWind, maxAlong, 1 << 32, math.MaxInt - 1, math.MaxInt}
}

// wantSame checks that two results are the same; nil lists and empty ones are.
func wantSame(t *testing.T, what string, got, want any) {
	t.Helper()
	if g, w := fmt.Sprintf("%+v", got), fmt.Sprintf("%+v", want); g != w {
		t.Errorf("%s: %s, want %s", what, g, w)
	}
}

func wantErr(t *testing.T, what string, got, want api.Errno) {
	t.Helper()
	if got != want {
		t.Errorf("%s: error %d, want %d", what, got, want)
	}
}

// wantRange checks that a number leads to no error exactly from the least one to
// the most.
func wantRange(t *testing.T, what string, least, most int, call func(n int) api.Errno) {
	t.Helper()
	for n, want := range map[int]api.Errno{
		least: api.OK, most: api.OK,
		least - 1: api.ErrRange, most + 1: api.ErrRange, math.MinInt: api.ErrRange, math.MaxInt: api.ErrRange,
	} {
		wantErr(t, fmt.Sprint(what, " ", n), call(n), want)
	}
}

func look(t *testing.T, s api.Site, tilt, ray int, speed, rise api.Span) wind.Sight {
	t.Helper()
	x, e := wind.Look(s, tilt, ray, speed, rise)
	wantErr(t, "Look", e, api.OK)
	return x
}

func agrees(t *testing.T, l []wind.Sight, u, v int) bool {
	t.Helper()
	ok, e := wind.Agree(l, u, v)
	wantErr(t, "Agree", e, api.OK)
	return ok
}

func bounds(t *testing.T, l []wind.Sight) wind.Wind {
	t.Helper()
	w, e := wind.Bounds(l)
	wantErr(t, "Bounds", e, api.OK)
	return w
}

func along(t *testing.T, l []wind.Sight, d direction) api.Span {
	t.Helper()
	s, e := wind.Along(l, d.x, d.y, d.length)
	wantErr(t, "Along", e, api.OK)
	return s
}

func strain(t *testing.T, l []wind.Sight) int {
	t.Helper()
	n, e := wind.Strain(l)
	wantErr(t, "Strain", e, api.OK)
	return n
}

// isConflict reports whether sights are in conflict.
func isConflict(t *testing.T, l []wind.Sight) bool {
	t.Helper()
	_, e := wind.Bounds(l)
	if e != api.OK {
		wantErr(t, "Bounds", e, api.ErrConflict)
	}
	return e != api.OK
}

// noise yields numbers that look like random ones, and are always the same.
type noise struct{ state uint64 }

func (n *noise) upTo(most int) int {
	n.state = n.state*6364136223846793005 + 1442695040888963407
	return int(n.state>>33) % (most + 1)
}

func (n *noise) from(least, most int) int { return least + n.upTo(most-least) }

func (n *noise) of(l ...int) int { return l[n.upTo(len(l)-1)] }

type direction struct{ x, y, length int }

// turned returns a direction that is turned clockwise by a quarter.
func (d direction) turned() direction { return direction{d.y, -d.x, d.length} }

// direction returns one whose length is at most a number.
func (n *noise) direction(most int) direction {
	order := 1
	for 2*(order+1)*(order+1) <= most {
		order++
	}
	a := n.upTo(order)
	b := n.of(0, 1, a, n.upTo(order))
	if a == 0 && b == 0 {
		a = 1
	}
	if a*a+b*b > most {
		a, b = 1, 0
	}
	d := direction{2 * a * b, a*a - b*b, a*a + b*b}
	by := n.of(1, 1, n.from(1, most/d.length), most/d.length)
	d = direction{d.x * by, d.y * by, d.length * by}
	for range n.upTo(3) {
		d = d.turned()
	}
	return d
}

// seeing returns a sight of a wind in a direction; its span is the wider, the
// greater the slack is.
func (n *noise) seeing(d direction, u, v, slack int) wind.Sight {
	along := u*d.x + v*d.y
	lo := below(along, d.length) - n.of(0, n.upTo(slack), n.upTo(slack))
	hi := above(along, d.length) + n.of(0, n.upTo(slack), n.upTo(slack))
	return wind.Sight{X: d.x, Y: d.y, L: d.length, Speed: span(max(lo, -maxAlong), min(hi, maxAlong))}
}

// sights returns some of a wind, and so many that are wrong by up to a number.
// They are often in few directions, so that axes are the same.
func (n *noise) sights(count, wrong, length, u, v, slack, by int) []wind.Sight {
	var few []direction
	for range n.from(1, 4) {
		few = append(few, n.direction(length))
	}
	isFew := n.upTo(2) == 0
	l := []wind.Sight{}
	for i := range count {
		d := n.direction(length)
		if isFew {
			d = few[n.upTo(len(few)-1)]
		}
		if i < wrong {
			l = append(l, n.seeing(d, u+n.from(-by, by), v+n.from(-by, by), slack))
		} else {
			l = append(l, n.seeing(d, u, v, slack))
		}
	}
	n.mix(l)
	return l
}

func (n *noise) mix(l []wind.Sight) {
	for i := range l {
		j := n.upTo(i)
		l[i], l[j] = l[j], l[i]
	}
}

// any returns sights of all sorts: of small winds and of great ones, wide and
// narrow, some with sights that are wrong.
func (n *noise) any(count, length int) []wind.Sight {
	most := n.of(10, 1000, maxWind)
	u, v := n.from(-most, most), n.from(-most, most)
	if n.upTo(2) == 0 { // speeds along many directions are whole
		u, v = u/65*65, v/65*65
	}
	if n.upTo(5) == 0 { // those that are wrong are often beyond all winds
		u = n.of(-maxWind, maxWind)
	}
	wrong := n.of(0, 1, 2, n.upTo(count))
	return n.sights(count, wrong, length, u, v, n.of(0, 1, 5, most/10, most), n.of(2, 10, most))
}

// within returns a span within another one.
func (n *noise) within(s api.Span) api.Span {
	lo := s.Lo + n.of(0, n.upTo(s.Hi-s.Lo))
	return span(lo, lo+n.of(s.Hi-lo, n.upTo(s.Hi-lo)))
}
