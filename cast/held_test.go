package cast_test

import (
	"fmt"
	"math"
	"testing"

	"radome/api"
	"radome/cast"
)

// fieldOf returns a field of one row.
func fieldOf(l ...api.Span) api.Field { return api.Field{Grid: grid(len(l), 1), Vals: l} }

func held(t *testing.T, states []int, f api.Field, level int) []int {
	t.Helper()
	l, e := cast.Held(states, f, level)
	wantErr(t, "Held", e, api.OK)
	return l
}

// P9.6: what is sure is contradicted by values below the level, what is clear by
// such of at least the level, and what may be by none.
func TestHeld(t *testing.T) {
	f := fieldOf(span(0, 4), span(4, 4), span(4, 5), span(5, 5), span(5, 9), span(0, 9), span(0, maxPower))
	for _, x := range []struct {
		state, level int
		want         []int
	}{
		{cast.Sure, 5, []int{0, 1}},
		{cast.Maybe, 5, nil},
		{cast.Clear, 5, []int{3, 4}},
		{cast.Sure, 4, nil},
		{cast.Clear, 4, []int{1, 2, 3, 4}},
		{cast.Sure, 6, []int{0, 1, 2, 3}},
		{cast.Clear, 6, nil},
		{cast.Sure, maxPower, []int{0, 1, 2, 3, 4, 5}},
		{cast.Clear, 1, []int{1, 2, 3, 4}},
		{cast.Sure, 1, nil},
	} {
		states := make([]int, 7)
		for i := range states {
			states[i] = x.state
		}
		wantSame(t, fmt.Sprintf("the state %d at the level %d", x.state, x.level), held(t, states, f, x.level), x.want)
	}
	wantSame(t, "one pixel", held(t, []int{0}, fieldOf(span(maxPower, maxPower)), maxPower), []int{0})
	wantSame(t, "one pixel that is 0", held(t, []int{2}, fieldOf(span(0, 0)), 1), []int{0})
}

// P9.6: pixels of many fields, as the chapter defines those that contradict; P9.11:
// states of which none is sure are contradicted only where they are clear.
func TestHeldByDefinition(t *testing.T) {
	for seed := range 500 {
		n := &noise{state: uint64(8000 + seed)}
		g := n.grid(64)
		f, states, level := api.Field{Grid: g}, []int{}, n.from(1, 9)
		most := n.of(cast.Maybe, cast.Sure)
		var want []int
		for pixel := range g.Wide * g.High {
			lo := n.upTo(9)
			s, value := n.upTo(most), span(lo, lo+n.of(0, n.upTo(5)))
			f.Vals, states = append(f.Vals, value), append(states, s)
			if s == 2 && value.Hi < level || s == 0 && level <= value.Lo {
				want = append(want, pixel)
			}
		}
		l := held(t, states, f, level)
		wantSame(t, "the pixels", l, want)
		for _, pixel := range l {
			if most == cast.Maybe && states[pixel] != cast.Clear {
				t.Errorf("the pixel %d is not clear, and none is sure", pixel)
			}
		}
	}
}

// P9.6: the errors of Held come in their order.
func TestHeldErrors(t *testing.T) {
	asked := func(states []int, f api.Field, level int) api.Errno {
		l, e := cast.Held(states, f, level)
		if e != api.OK {
			wantSame(t, "the pixels of an error", l, []int{})
		}
		return e
	}
	f := fieldOf(span(0, 4), span(9, 9), span(0, 9))
	wantRange(t, "level", 1, maxPower, func(n int) api.Errno { return asked([]int{2, 1, 0}, f, n) })
	for i := range 3 {
		wantRange(t, fmt.Sprint("the state ", i), 0, 2, func(n int) api.Errno {
			states := []int{2, 2, 2}
			states[i] = n
			return asked(states, f, 5)
		})
	}
	for _, states := range [][]int{nil, {}, {1, 1}, {1, 1, 1, 1}, {5}, {-1, 2, 2, 2}} {
		wantErr(t, fmt.Sprint("the states ", states), asked(states, f, 5), api.ErrShape)
		wantErr(t, fmt.Sprint("the states ", states), asked(states, f, 0), api.ErrShape)
	}
	for name, bad := range map[string]struct {
		f api.Field
		e api.Errno
	}{
		"no field":        {api.Field{}, api.ErrRange},
		"no grid":         {api.Field{Vals: f.Vals}, api.ErrRange},
		"no spans":        {api.Field{Grid: f.Grid}, api.ErrShape},
		"a span too few":  {api.Field{Grid: f.Grid, Vals: f.Vals[1:]}, api.ErrShape},
		"Lo above Hi":     {fieldOf(span(0, 1), span(2, 1), span(0, 0)), api.ErrRange},
		"Lo below 0":      {fieldOf(span(-1, 1), span(2, 2), span(0, 0)), api.ErrRange},
		"Hi too great":    {fieldOf(span(1, 1), span(2, 2), span(0, maxPower+1)), api.ErrRange},
		"the greatest Hi": {fieldOf(span(1, 1), span(2, 2), span(0, math.MaxInt)), api.ErrRange},
	} {
		wantErr(t, name, asked([]int{0, 1, 2}, bad.f, 5), bad.e)
		wantErr(t, name+", with no states", asked(nil, bad.f, 0), bad.e)
	}
}

// P9.11: a field in which exactly what is covered in part, in truth, has values of
// at least the level does not contradict what follows from the cloud.
func TestHeldTruth(t *testing.T) {
	sure, clear := 0, 0
	for seed := range 1500 {
		n := &noise{state: uint64(9000 + seed)}
		g := n.grid(7)
		c := n.cloud(g, n.of(2000, maxRush), maxGrow)
		lead, level := n.upTo(60), n.from(1, 9)
		r, states := n.course(g, c, lead), at(t, g, lead, c)
		f := api.Field{Grid: g}
		for pixel, s := range states {
			isMet, _ := r.truth(placeOf(g, pixel), lead)
			value := span(n.upTo(level-1), level-1)
			if isMet {
				value = span(level, level+n.upTo(9))
			}
			f.Vals = append(f.Vals, value)
			switch s {
			case cast.Sure:
				sure++
			case cast.Clear:
				clear++
			}
		}
		wantSame(t, fmt.Sprintf("what contradicts %+v at %d", c, lead), held(t, states, f, level), []int{})
	}
	if sure < 300 || clear < 300 {
		t.Errorf("%d are sure, %d are clear", sure, clear)
	}
}
