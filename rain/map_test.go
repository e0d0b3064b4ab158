package rain_test

import (
	"slices"
	"testing"

	"radome/api"
	"radome/beam"
	"radome/rain"
)

func mustMap(t *testing.T, c scene, g api.Grid) api.Field {
	t.Helper()
	f, e := rain.Map(c.model, c.sweep, c.earth, c.ground, g)
	if e != api.OK || f.Grid != g || len(f.Vals) != g.Wide*g.High {
		t.Fatalf("Map of %v: %v %v, error %d", g, f.Grid, f.Vals, e)
	}
	return f
}

// P5.5: the example on a map: gates of the ray 0 in the north-east, quiet ones
// elsewhere, and any rate where there are no gates.
func TestMapExample(t *testing.T) {
	c := scene{model(), example(), earth(), hill(pt(0))}
	c.model.Rate = points(0, 0, 100000, 200000)
	unknown, none := span(0, 1000000), pt(0)
	// The middles are 750 and 2250 metres from the site, to each side.
	got := mustMap(t, c, api.Grid{X: -3000, Y: -3000, Size: 1500, Wide: 4, High: 4})
	want := []api.Span{
		unknown, none, none, unknown,
		none, none, none, none,
		none, none, span(1800, 2000), span(0, 200),
		unknown, none, span(0, 200), unknown,
	}
	if !slices.Equal(got.Vals, want) {
		t.Errorf("Map: %v, want %v", got.Vals, want)
	}
	// Those of one row are 100, 1100, 2100 and 3100 metres to the north.
	got = mustMap(t, c, api.Grid{X: 0, Y: -400, Size: 1000, Wide: 1, High: 4})
	if got.Vals[0] != span(2000, 2000) || got.Vals[1] != span(1800, 2000) || got.Vals[2] != span(0, 200) || got.Vals[3] != unknown {
		t.Errorf("Map to the north: %v", got.Vals)
	}
	for _, at := range [][2]int{{-1048576, -1048576}, {1048576, 1048576}, {100000, 0}} {
		far := mustMap(t, c, api.Grid{X: at[0], Y: at[1], Size: 1, Wide: 64, High: 64})
		if slices.ContainsFunc(far.Vals, func(s api.Span) bool { return s != unknown }) {
			t.Errorf("Map far away: %v", far.Vals)
		}
	}
}

// P5.5: each pixel has the rate of the gate that is found at its middle.
func TestMap(t *testing.T) {
	n := &noise{state: 51}
	seen := map[bool]int{}
	for range 60 {
		c := n.scene(n.of(1, 4, 12))
		far := c.sweep.Site.Gates * c.sweep.Site.Step
		g := api.Grid{Size: 1 + n.upTo(min(far, 9999)), Wide: 1 + n.upTo(8), High: 1 + n.upTo(8)}
		g.X, g.Y = c.sweep.Site.X-n.upTo(g.Wide*g.Size), c.sweep.Site.Y-n.upTo(g.High*g.Size)
		got := mustMap(t, c, g)
		for pixel, s := range got.Vals {
			x := g.X + pixel%g.Wide*g.Size + g.Size/2
			y := g.Y + pixel/g.Wide*g.Size + g.Size/2
			ray, gate, e := beam.Find(c.sweep.Site, c.sweep.Tilt, x, y)
			want := span(0, 1000000)
			if e == api.OK {
				want = c.rates(t, ray)[gate]
			}
			if s != want {
				t.Fatalf("the pixel %d of %v for %v: %v, want %v", pixel, g, c, s, want)
			}
			seen[e == api.OK]++
		}
		wantErr(t, "beam.CheckField", beam.CheckField(got), api.OK)
	}
	if seen[true] < 300 || seen[false] < 300 {
		t.Errorf("pixels with gates, and without: %v", seen)
	}
}
