package beam_test

import (
	"slices"
	"testing"

	"radome/api"
	"radome/beam"
)

// strangeSites are valid in all but at most one number.
func strangeSites() []api.Site {
	l := append(sites(), api.Site{})
	for _, n := range extremes() {
		for field := range 7 {
			s := example()
			p := []*int{&s.X, &s.Y, &s.Z, &s.Rose, &s.Gates, &s.Step, &s.Width}[field]
			*p = n
			l = append(l, s)
		}
	}
	return l
}

// P0: every function ends, without a panic, for all arguments; R2: with an
// error, all other results are zero values.
func TestAnyArguments(t *testing.T) {
	some := append(extremes(), 3, 255, api.MaxTilt)
	for _, s := range strangeSites() {
		for _, a := range some {
			for _, b := range some {
				g := api.Grid{X: a, Y: b, Size: b, Wide: a, High: 2}
				fields := []api.Field{{Grid: g}, {Grid: g, Vals: []api.Span{{Lo: a, Hi: b}}}, hill(api.Span{Lo: a, Hi: b})}
				for _, f := range fields {
					for name, call := range calls() {
						if zero, e := call(s, a, f, b); e != api.OK && !zero {
							t.Fatalf("%s with the error %d returns more", name, e)
						}
					}
					beam.CheckField(f)
					beam.Blocked(s, 0, api.Span{Lo: a, Hi: b}, f, 0)
					beam.Blocked(s, a, pt(8495000), f, b)
				}
				beam.Height(s, a, pt(8495000), b)
				beam.Band(s, a, pt(8495000), b)
				beam.Place(s, 0, a, b)
				beam.Find(s, 0, a, b)
				beam.View(s, a, g)
				if n, e := beam.Pixel(g, b, a); e != api.OK && n != 0 {
					t.Fatalf("Pixel with the error %d: %d", e, n)
				}
				beam.Direction(a, b)
			}
			beam.Slant(a)
		}
	}
}

// R4: arguments stay as they are, and results share no memory.
func TestNewMemory(t *testing.T) {
	f := hill(api.Span{Lo: 100, Hi: 101})
	kept := slices.Clone(f.Vals)
	first, _ := beam.Blocked(example(), 0, pt(10000000), f, 0)
	wanted := slices.Clone(first)
	if !slices.Equal(f.Vals, kept) {
		t.Errorf("the ground has changed: %v", f.Vals)
	}
	for i := range first {
		first[i] = pt(-1)
	}
	if again, _ := beam.Blocked(example(), 0, pt(10000000), f, 0); !slices.Equal(again, wanted) || !slices.Equal(f.Vals, kept) {
		t.Errorf("Blocked again: %v", again)
	}
	view, _ := beam.View(example(), 0, f.Grid)
	view[0] = -9
	if again, _ := beam.View(example(), 0, f.Grid); !slices.Equal(again, []int{19, 11, 27, 3}) {
		t.Errorf("View again: %v", again)
	}
}
