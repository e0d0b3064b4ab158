package rain_test

import (
	"math"
	"testing"

	"radome/api"
	"radome/rain"
)

// P5.1: tables that are valid, with the fewest and the most points, with equal
// values, and with the greatest numbers.
func TestTables(t *testing.T) {
	for what, l := range map[string][]rain.Point{
		"T": tableT(), "the fewest points": many(2), "the most points": many(32),
		"equal values":         points(0, 7, 1, 7, 2, 7),
		"no values":            points(0, 0, 5, 0),
		"the greatest power":   points(0, 0, maxPower, 9),
		"the greatest value":   points(0, 0, 1, 500),
		"the greatest at once": points(0, 500, 1, 500),
	} {
		wantErr(t, what, rain.CheckTable(l, 500), api.OK)
		if _, e := rain.Value(l, 0); e != api.OK {
			t.Errorf("Value of %s: error %d", what, e)
		}
	}
	wantErr(t, "L", rain.CheckTable(tableL(), rain.MaxLoss), api.OK)
	wantErr(t, "a greatest value of 0", rain.CheckTable(points(0, 0, 1, 0), 0), api.OK)
	wantErr(t, "any value", rain.CheckTable(points(0, 0, 1, math.MaxInt), math.MaxInt), api.OK)
}

// P5.1: how many points there are, ahead of what is wrong with them.
func TestCheckTableCount(t *testing.T) {
	for _, l := range [][]rain.Point{nil, {}, many(1), points(-1, -1)} {
		wantErr(t, "too few points", rain.CheckTable(l, 500), api.ErrEmpty)
	}
	wantErr(t, "33 points", rain.CheckTable(many(33), 500), api.ErrMany)
	l := many(33)
	l[0] = rain.Point{Z: -1, R: -1}
	wantErr(t, "33 points with others", rain.CheckTable(l, -1), api.ErrMany)
}

// P5.1: each number of a point, from its least to its greatest value.
func TestCheckTableRanges(t *testing.T) {
	checkLimits(t, "Z", 101, maxPower, func(n int) api.Errno {
		e := rain.CheckTable(points(0, 0, 100, 10, n, 20), 500)
		if n == 100 && e == api.ErrOrder {
			return api.ErrRange // what is just below is in range, but not in order
		}
		return e
	})
	checkLimits(t, "the first R", 0, 10, func(n int) api.Errno {
		e := rain.CheckTable(points(0, n, 100, 10), 500)
		if n == 11 && e == api.ErrOrder {
			return api.ErrRange
		}
		return e
	})
	checkLimits(t, "the last R", 0, 500, func(n int) api.Errno { return rain.CheckTable(points(0, 0, 100, n), 500) })
	checkLimits(t, "the R of all", 0, 500, func(n int) api.Errno { return rain.CheckTable(points(0, n, 100, n), 500) })
	checkLimits(t, "the last Z, from the first one on", 1, maxPower, func(n int) api.Errno {
		e := rain.CheckTable(points(0, 0, n, 0), 500)
		if n == 0 && e == api.ErrOrder {
			return api.ErrRange
		}
		return e
	})
	for _, most := range []int{-1, math.MinInt} {
		wantErr(t, "a greatest value below 0", rain.CheckTable(tableT(), most), api.ErrRange)
	}
}

// P5.1: points that are not in order, and which error comes first.
func TestCheckTableOrder(t *testing.T) {
	for what, x := range map[string]struct {
		l    []rain.Point
		want api.Errno
	}{
		"no 0 at first":                 {points(1, 0, 2, 0), api.ErrOrder},
		"the greatest power at first":   {points(maxPower, 0, 2, 0), api.ErrOrder},
		"below 0 at first":              {points(-1, 0, 2, 0), api.ErrRange},
		"beyond all at first":           {points(maxPower+1, 0, 2, 0), api.ErrRange},
		"equal powers":                  {points(0, 0, 5, 1, 5, 2), api.ErrOrder},
		"another 0":                     {points(0, 0, 0, 0), api.ErrOrder},
		"powers that become less":       {points(0, 0, 5, 1, 4, 2), api.ErrOrder},
		"values that become less":       {points(0, 3, 5, 2), api.ErrOrder},
		"values that become less later": {points(0, 0, 5, 4, 6, 4, 7, 3), api.ErrOrder},
		"range ahead of order":          {points(0, 3, 5, -1), api.ErrRange},
		"power ahead of the value":      {points(0, 3, -5, 2), api.ErrRange},
		"range at a first one, not 0":   {points(1, -1, 2, 3), api.ErrRange},
		"order in an earlier point":     {points(0, 3, 5, 2, -1, -1), api.ErrOrder},
		"order in the first point":      {points(1, 0, -1, -1), api.ErrOrder},
		"range in an earlier point":     {points(0, 501, 0, 0), api.ErrRange},
	} {
		wantErr(t, what, rain.CheckTable(x.l, 500), x.want)
	}
}

// P5.1: each table and each span of a model.
func TestCheckModel(t *testing.T) {
	wantErr(t, "a model", rain.CheckModel(model()), api.OK)
	check := func(change func(m *rain.Model)) api.Errno {
		m := model()
		change(&m)
		return rain.CheckModel(m)
	}
	checkLimits(t, "Loss", 0, 32768, func(n int) api.Errno { return check(func(m *rain.Model) { m.Loss = points(0, n, 1, n) }) })
	checkLimits(t, "Rate", 0, 1000000, func(n int) api.Errno { return check(func(m *rain.Model) { m.Rate = points(0, n, 1, n) }) })
	for what, field := range map[string]struct {
		of   func(m *rain.Model) *api.Span
		most int
	}{
		"Melt":  {func(m *rain.Model) *api.Span { return &m.Melt }, 20000},
		"In":    {func(m *rain.Model) *api.Span { return &m.In }, 100000},
		"Above": {func(m *rain.Model) *api.Span { return &m.Above }, 100000},
	} {
		set := func(s api.Span) api.Errno { return check(func(m *rain.Model) { *field.of(m) = s }) }
		checkLimits(t, what+", a point", 0, field.most, func(n int) api.Errno { return set(pt(n)) })
		checkLimits(t, what+".Lo", 0, 500, func(n int) api.Errno { return set(span(n, 500)) })
		checkLimits(t, what+".Hi", 500, field.most, func(n int) api.Errno { return set(span(500, n)) })
		wantErr(t, what+" of all", set(span(0, field.most)), api.OK)
	}
}

// P5.1: Loss ahead of Rate, and Rate ahead of the spans.
func TestCheckModelOrder(t *testing.T) {
	m := model()
	m.Above = span(1, 0)
	wantErr(t, "a span", rain.CheckModel(m), api.ErrRange)
	m.Rate = many(33)
	wantErr(t, "a span, and Rate", rain.CheckModel(m), api.ErrMany)
	m.Loss = many(1)
	wantErr(t, "a span, Rate and Loss", rain.CheckModel(m), api.ErrEmpty)
	wantErr(t, "nothing", rain.CheckModel(rain.Model{}), api.ErrEmpty)
	wantErr(t, "only Loss", rain.CheckModel(rain.Model{Loss: tableL()}), api.ErrEmpty)
	wantErr(t, "only tables", rain.CheckModel(rain.Model{Loss: tableL(), Rate: tableT()}), api.OK)
}

// P5.2: the examples, and powers at, between and beyond points.
func TestValueExamples(t *testing.T) {
	steep := points(0, 0, 1, maxPower)
	flat := points(0, 7, 10, 7, 20, 7, 30, 8)
	long := points(0, 0, maxPower, maxPower)
	for _, x := range []struct {
		l    []rain.Point
		z    int
		want api.Span
	}{
		{tableT(), 50, pt(5)}, {tableT(), 101, pt(11)}, {tableT(), 200, pt(110)}, {tableT(), 1000000, pt(110)},
		{points(0, 0, 3, 1), 1, span(0, 1)}, {points(0, 0, 3, 1), 2, span(0, 1)}, {points(0, 0, 3, 1), 3, pt(1)},
		{tableT(), 0, pt(0)}, {tableT(), 9, span(0, 1)}, {tableT(), 10, pt(1)}, {tableT(), 11, span(1, 2)}, {tableT(), 99, span(9, 10)},
		{tableT(), 100, pt(10)}, {tableT(), 199, pt(109)}, {tableT(), 201, pt(110)}, {tableT(), maxPower, pt(110)},
		{steep, 0, pt(0)}, {steep, 1, pt(maxPower)}, {steep, maxPower, pt(maxPower)},
		{flat, 0, pt(7)}, {flat, 15, pt(7)}, {flat, 20, pt(7)}, {flat, 21, span(7, 8)}, {flat, 30, pt(8)},
		{long, maxPower - 1, pt(maxPower - 1)}, {long, maxPower, pt(maxPower)}, {long, 123456789, pt(123456789)},
		{points(0, 0, maxPower, maxPower-1), maxPower - 1, span(maxPower-2, maxPower-1)},
		{many(32), 92, span(61, 62)}, {many(32), 93, pt(62)}, {many(32), 94, pt(62)},
	} {
		if v, e := rain.Value(x.l, x.z); v != x.want || e != api.OK {
			t.Errorf("Value(%v, %d): %v %d, want %v", x.l, x.z, v, e, x.want)
		}
	}
}

// P5.2: values against their definition.
func TestValues(t *testing.T) {
	n := &noise{}
	between := 0
	for range 400 {
		far := n.of(40, 1000, maxPower)
		l := n.table(2+n.upTo(30), far, n.of(3, 1000, maxPower))
		for range 30 {
			z := min(maxPower, n.of(n.upTo(far), n.upTo(far), l[n.upTo(len(l)-1)].Z+n.upTo(1), n.upTo(maxPower)))
			v, e := rain.Value(l, z)
			exact := wantValue(l, rat(z, 1))
			if v != span(floor(exact), ceil(exact)) || e != api.OK {
				t.Fatalf("Value(%v, %d): %v %d, want %v", l, z, v, e, exact)
			}
			if v.Lo < v.Hi {
				between++
			}
		}
	}
	if between < 1000 {
		t.Errorf("only %d values are no integers", between)
	}
}

// P5.2: the error of the table comes ahead of that of the power.
func TestValueErrors(t *testing.T) {
	checkLimits(t, "z", 0, maxPower, func(z int) api.Errno {
		v, e := rain.Value(tableT(), z)
		if e != api.OK && v != (api.Span{}) {
			t.Errorf("Value at %d: %v with the error %d", z, v, e)
		}
		return e
	})
	checkLimits(t, "R", 0, maxPower, func(r int) api.Errno {
		_, e := rain.Value(points(0, r, 1, r), 0)
		return e
	})
	for what, x := range map[string]struct {
		l    []rain.Point
		want api.Errno
	}{
		"no table": {nil, api.ErrEmpty}, "too many points": {many(33), api.ErrMany},
		"a value below 0": {points(0, -1, 1, 1), api.ErrRange}, "no 0": {points(1, 0, 2, 0), api.ErrOrder},
	} {
		for _, z := range []int{0, -1, math.MaxInt} {
			v, e := rain.Value(x.l, z)
			if v != (api.Span{}) || e != x.want {
				t.Errorf("Value of %s at %d: %v %d, want %d", what, z, v, e, x.want)
			}
		}
	}
}
