package cast_test

import (
	"fmt"
	"math"
	"testing"

	"radome/api"
	"radome/cast"
)

// P9.5: the times of pixels whose states are known: such as never are other than
// clear, never are sure, and change more than once.
func TestWhenKnown(t *testing.T) {
	east := flow(10000, 10000, 0, 0) // by a column in 100 seconds
	for _, x := range []struct {
		what  string
		flow  cast.Flow
		grow  int
		row   string
		pixel int
		lead  int
		want  cast.Times
	}{
		{"it comes and goes", east, 0, ".#....", 3, 1000, cast.Times{First: 101, Sure: 200, Last: 299, Least: 1, Most: 199}},
		{"two come and go", east, 0, ".#.#....", 5, 1000, cast.Times{First: 101, Sure: 200, Last: 499, Least: 2, Most: 398}},
		{"it stays for longer", east, 0, "###....", 4, 1000, cast.Times{First: 101, Sure: 200, Last: 499, Least: 201, Most: 399}},
		{"it never is sure", east, 0, "?......", 2, 1000, cast.Times{First: 101, Sure: -1, Last: 299, Most: 199}},
		{"it only just comes", east, 0, "#......", 3, 201, cast.Times{First: 201, Sure: -1, Last: 201, Most: 1}},
		{"it only just does not", east, 0, "#......", 3, 200, cast.Times{First: -1, Sure: -1, Last: -1}},
		{"it is there at once", east, 0, "#......", 0, 1000, cast.Times{First: 0, Sure: 0, Last: 99, Least: 1, Most: 100}},
		{"it is there at the lead 0", east, 0, "#......", 0, 0, cast.Times{First: 0, Sure: 0, Last: 0, Least: 1, Most: 1}},
		{"perhaps it is there at the lead 0", east, 0, "?......", 0, 0, cast.Times{First: 0, Sure: -1, Last: 0, Most: 1}},
		{"it is not there at the lead 0", east, 0, "#......", 1, 0, cast.Times{First: -1, Sure: -1, Last: -1}},
		{"it moves away", east, 0, ".#", 0, maxLead, cast.Times{First: -1, Sure: -1, Last: -1}},
		{"it rests", cast.Flow{}, 0, ".#.", 1, maxLead, cast.Times{First: 0, Sure: 0, Last: maxLead, Least: maxLead + 1, Most: maxLead + 1}},
		{"it grows, perhaps", cast.Flow{}, 100, ".#...", 1, maxLead, cast.Times{First: 0, Sure: 0, Last: maxLead, Least: 1, Most: maxLead + 1}},
		{"until it is here", cast.Flow{}, 1000, ".#...", 3, maxLead, cast.Times{First: 1001, Sure: -1, Last: maxLead, Most: maxLead - 1000}},
		{"it jumps over pixels", flow(maxRush, maxRush, 0, 0), 0, "#........", 8, 1000, cast.Times{First: 71, Sure: 80, Last: 89, Least: 1, Most: 19}},
		{"it comes from the east", flow(-10000, -10000, 0, 0), 0, "....#", 3, 1000, cast.Times{First: 1, Sure: 100, Last: 199, Least: 1, Most: 199}},
		{"one pixel", east, 0, "#", 0, maxLead, cast.Times{First: 0, Sure: 0, Last: 99, Least: 1, Most: 100}},
	} {
		g, c := picture(x.flow, x.grow, x.row)
		wantSame(t, x.what, when(t, g, c, x.pixel, x.lead), x.want)
		column := grid(1, g.Wide) // the same with rows
		c.Flow = cast.Flow{X: x.flow.Y, Y: x.flow.X}
		if x.grow == 0 {
			wantSame(t, x.what+", in a column", when(t, column, c, x.pixel, x.lead), x.want)
		}
	}
}

// P9.5: times are as the chapter defines them.
func TestWhenByDefinition(t *testing.T) {
	never, maybe, sure, again := 0, 0, 0, 0
	for seed := range 400 {
		n := &noise{state: uint64(6000 + seed)}
		g := n.grid(7)
		c := n.cloud(g, maxRush, maxGrow/n.of(1, 10, 1000))
		pixel, lead := n.upTo(g.Wide*g.High-1), n.upTo(60)
		x := when(t, g, c, pixel, lead)
		wantSame(t, fmt.Sprintf("%+v on %+v, the pixel %d up to %d", c, g, pixel, lead), x, wantTimes(g, c, pixel, lead))
		switch {
		case x.Most == 0:
			never++
		case x.Least == 0:
			maybe++
		default:
			sure++
		}
		if x.Most < x.Last-x.First+1 {
			again++
		}
	}
	if never < 30 || maybe < 30 || sure < 30 || again < 3 {
		t.Errorf("%d are never met, %d perhaps, %d surely; %d more than once", never, maybe, sure, again)
	}
}

// P9.5: When says of each second what At says of it, up to the greatest lead and
// on the greatest grid.
func TestWhenAndAt(t *testing.T) {
	g := grid(64, 64)
	c := cast.Cloud{May: []int{0, 1, 64, 65, 500, 2080}, Sure: []int{0, 1, 64, 65}, Flow: flow(7000, 8750, 7500, 8700), Grow: 3}
	const pixel = 62*64 + 60
	x := when(t, g, c, pixel, maxLead)
	met := cast.Times{First: -1, Sure: -1, Last: -1}
	for lead := 0; lead <= maxLead; lead += 9 { // Of the others First and Last are asked, too.
		s := at(t, g, lead, c)[pixel]
		if s != cast.Clear && (lead < x.First || lead > x.Last) {
			t.Errorf("met at %d: %+v", lead, x)
		}
		if s != cast.Clear {
			met.Most++
		}
	}
	if x.First < 1 || x.Last <= x.First || met.Most < 100 {
		t.Fatalf("%+v; %d are met", x, met.Most)
	}
	for lead, isMet := range map[int]bool{x.First - 1: false, x.First: true, x.Last: true, x.Last + 1: false} {
		if lead <= maxLead && (at(t, g, lead, c)[pixel] != cast.Clear) != isMet {
			t.Errorf("at %d: met, or not, against %+v", lead, x)
		}
	}
	all := cast.Cloud{May: all(g), Sure: all(g), Flow: flow(-4, 4, -4, 4), Grow: 0}
	wantSame(t, "the middle of all", when(t, g, all, 32*64+32, maxLead), cast.Times{First: 0, Sure: 0, Last: maxLead, Least: maxLead + 1, Most: maxLead + 1})
	wantSame(t, "a corner of all", when(t, g, all, 0, maxLead), cast.Times{First: 0, Sure: 0, Last: maxLead, Least: 1, Most: maxLead + 1})
}

// P9.5: the errors of When come in their order.
func TestWhenErrors(t *testing.T) {
	g, good := picture(cast.Flow{}, 0, ".#?...", "......", "......")
	asked := func(g api.Grid, c cast.Cloud, pixel, lead int) api.Errno {
		x, e := cast.When(g, c, pixel, lead)
		if e != api.OK {
			wantSame(t, "the times of an error", x, cast.Times{})
		}
		return e
	}
	wantRange(t, "lead", 0, maxLead, func(n int) api.Errno { return asked(g, good, 1, n) })
	for pixel, want := range map[int]api.Errno{0: api.OK, 17: api.OK, -1: api.ErrNone, 18: api.ErrNone, math.MinInt: api.ErrNone, math.MaxInt: api.ErrNone} {
		wantErr(t, fmt.Sprint("the pixel ", pixel), asked(g, good, pixel, 0), want)
	}
	wantErr(t, "no pixel, and no lead", asked(g, good, 18, -1), api.ErrNone)
	for i, x := range worse() {
		wantErr(t, fmt.Sprint("case ", i), asked(g, x.c, 18, 7201), x.e)
		for name, bad := range badGrids() {
			wantErr(t, name, asked(bad, x.c, 18, 7201), api.ErrRange)
		}
	}
	for name, bad := range badGrids() {
		wantErr(t, name, asked(bad, good, 0, 0), api.ErrRange)
	}
}

// P9.7: in truth a pixel is met not before First, and not behind Last; it is
// covered as a whole for at least Least of the seconds, and in part for at most
// Most.
func TestTimesOfTruth(t *testing.T) {
	whole := 0
	for seed := range 250 {
		n := &noise{state: uint64(7000 + seed)}
		g := n.grid(6)
		c := n.cloud(g, n.of(10000, maxRush), maxGrow)
		lead := n.upTo(50)
		r := n.course(g, c, lead)
		for range 3 {
			pixel := n.upTo(g.Wide*g.High - 1)
			x := when(t, g, c, pixel, lead)
			least, most := 0, 0
			for second := 0; second <= lead; second++ {
				isMet, isWhole := r.truth(placeOf(g, pixel), second)
				if isMet && (x.First < 0 || second < x.First || second > x.Last) {
					t.Fatalf("%+v: the pixel %d is met at %d: %+v", c, pixel, second, x)
				}
				if isMet {
					most++
				}
				if isWhole {
					least++
				}
			}
			if least < x.Least || most > x.Most {
				t.Fatalf("%+v: the pixel %d is covered for %d seconds, and in part for %d: %+v", c, pixel, least, most, x)
			}
			whole += x.Least
		}
	}
	if whole < 300 {
		t.Errorf("%d seconds are sure", whole)
	}
}
