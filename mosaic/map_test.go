package mosaic_test

import (
	"fmt"
	"testing"

	"radome/api"
	"radome/beam"
	"radome/mosaic"
)

// P11.5: the times at which a message begins and ceases to be used, and one
// second beside them.
func TestMapTimes(t *testing.T) {
	for _, x := range []struct {
		what        string
		offset      api.Span
		age         int
		time        int
		first, last int // no map shows it if first is above last
	}{
		{"without an offset", pt(0), 600, 100, 100, 700},
		{"the least age", pt(0), 1, 100, 100, 101},
		{"the greatest age", pt(0), maxAge, 100, 100, 86500},
		{"a clock that is slow", span(5, 10), 600, 100, 110, 705},
		{"a clock that is fast", span(-10, -5), 600, 100, 95, 690},
		{"a clock that may be both", span(-10, 5), 600, 100, 105, 690},
		{"the greatest offset", pt(maxOffset), 600, 100, 3700, 4300},
		{"the least offset", pt(-maxOffset), 600, 5000, 1400, 2000},
		{"the widest offset", span(-maxOffset, maxOffset), maxAge, 5000, 8600, 87800},
		{"an offset as wide as the age", span(-3, 7), 10, 100, 107, 107},
		{"an offset that is wider", span(-3, 8), 10, 100, 108, 107},
		{"the time 0", pt(0), 600, 0, 0, 600},
		{"the time 0 of a fast clock", pt(-600), 600, 0, 0, 0},
		{"the time 0 of a clock that is too fast", pt(-601), 600, 0, 0, -1},
		{"the last time", pt(0), 600, maxTime, maxTime, maxTime},
		{"the last time of a fast clock", span(-10, -5), 600, maxTime, maxTime - 5, maxTime},
		{"the last time of a slow clock", pt(1), 600, maxTime, maxTime + 1, maxTime},
		{"just shown at the last time", pt(-600), 600, maxTime, maxTime - 600, maxTime},
		{"no more at the last time", span(-601, -600), 600, maxTime - 1, maxTime - 601, maxTime - 2},
	} {
		s := networkOf("a")
		s.Radars[0].Offset, s.Age = x.offset, x.age
		n := nodeOf(t, s, message("a", 0, x.time, pt(5)))
		for _, time := range []int{0, x.first - 1, x.first, x.first + 1, x.last - 1, x.last, x.last + 1, x.time, maxTime} {
			if time < 0 || time > maxTime {
				continue
			}
			want := "gap"
			if x.first <= time && time <= x.last {
				want = fmt.Sprint("5 a 0 ", x.time)
			}
			if got := shown(mapAt(t, n, time)[0]); got != want {
				t.Errorf("%s, at %d: %s, want %s", x.what, time, got, want)
			}
		}
	}
}

// P11.5: of one radar and tilt the newest message is used; one that does not fit,
// or is contested, is in nobody's way.
func TestMapNewest(t *testing.T) {
	s := networkOf("a", "b")
	s.Radars[0].Site.Z = 0 // lower than all others
	s.Age = 100
	n := nodeOf(t, s, message("a", 0, 100, pt(1)), message("a", 0, 150, pt(2)), message("a", 0, 160, pt(3)), message("a", 9, 170, pt(4)), message("b", 0, 180, pt(5)))
	for time, want := range map[int]string{
		99: "gap", 100: "1 a 0 100", 149: "1 a 0 100", 150: "2 a 0 150", 159: "2 a 0 150", 160: "3 a 0 160", 180: "3 a 0 160", 260: "3 a 0 160",
		261: "4 a 9 170", 270: "4 a 9 170", 271: "5 b 0 180", 280: "5 b 0 180", 281: "gap",
	} {
		wantMap(t, n, time, want)
	}
	offer(t, n, message("a", 0, 160, pt(6)))
	wantMap(t, n, 160, "2 a 0 150")
	wantMap(t, n, 250, "2 a 0 150")
	wantMap(t, n, 251, "4 a 9 170")
	offer(t, n, message("a", 0, 150, pt(6)), message("a", 0, 160, pt(7)))
	wantMap(t, n, 160, "1 a 0 100")
	wantMap(t, n, 200, "1 a 0 100")
	wantMap(t, n, 201, "4 a 9 170")
}

// eye is a radar in the south of a pixel, and a message of it.
type eye struct {
	name               string
	tilt, time         int
	z, width, gate, by int // how wide a gate is
}

// band returns the one of the pixel.
func (x eye) band(t *testing.T) api.Span {
	t.Helper()
	b, e := beam.Band(x.site(), x.tilt, pt(8000000), x.gate)
	wantErr(t, "Band", e, api.OK)
	return b
}

// site returns that of the radar: the middle of the pixel is at (1, 1), in the
// middle of the gate.
func (x eye) site() api.Site {
	return api.Site{Name: x.name, X: 1, Y: 1 - x.gate*x.by - x.by/2, Z: x.z, Rose: 1, Gates: 5, Step: x.by, Width: x.width}
}

// P11.5: bands that are equal at no end, at one or at both; of both messages the
// first one is shown.
func TestMapBands(t *testing.T) {
	for _, x := range []struct {
		what string
		a, b eye
		lo   int // how the low ends of both bands compare
		hi   int // and the high ends
	}{
		{"lower at both ends", eye{"b", 5, 90, 100, 0, 1, 1000}, eye{"a", 0, 100, 140, 0, 1, 1000}, -1, -1},
		{"lower as it is nearer", eye{"b", 5, 90, 100, 0, 1, 1000}, eye{"a", 5, 100, 100, 0, 2, 1000}, -1, -1},
		{"lower as its tilt is less", eye{"b", 4, 90, 100, 0, 1, 1000}, eye{"a", 5, 100, 100, 0, 1, 1000}, -1, -1},
		{"within it", eye{"b", 0, 90, 100, 0, 1, 1000}, eye{"a", 0, 100, 100, 1, 1, 1000}, 1, -1},
		{"the low end is the same", eye{"b", 0, 90, 100, 0, 1, 1000}, eye{"a", 0, 100, 112, 2, 1, 1000}, 0, -1},
		{"the high end is the same", eye{"b", 0, 90, 88, 2, 1, 1000}, eye{"a", 0, 100, 100, 0, 1, 1000}, -1, 0},
		{"the same band, the greater time", eye{"b", 1, 101, 100, 0, 0, 50}, eye{"a", 1, 100, 100, 0, 0, 50}, 0, 0},
		{"the same band and time, the lesser name", eye{"a", 2, 100, 100, 0, 0, 50}, eye{"b", 1, 100, 100, 0, 0, 50}, 0, 0},
		{"the same, of names of which one begins the other one", eye{"a", 2, 100, 100, 0, 0, 50}, eye{"ab", 1, 100, 100, 0, 0, 50}, 0, 0},
		{"the same, of names of the same length", eye{"a_", 2, 100, 100, 0, 0, 50}, eye{"ab", 1, 100, 100, 0, 0, 50}, 0, 0},
	} {
		bandA, bandB := x.a.band(t), x.b.band(t)
		if sign(bandA.Lo-bandB.Lo) != x.lo || sign(bandA.Hi-bandB.Hi) != x.hi {
			t.Errorf("%s: the bands are %v and %v", x.what, bandA, bandB)
		}
		s := mosaic.Spec{Grid: api.Grid{Size: 2, Wide: 1, High: 1}, Earth: pt(8000000), Age: 600}
		s.Radars = []mosaic.Radar{{Site: x.a.site()}, {Site: x.b.site()}}
		a, b := message(x.a.name, x.a.tilt, x.a.time, pt(1)), message(x.b.name, x.b.tilt, x.b.time, pt(2))
		want := shown(mosaic.Pixel{Value: pt(1), Key: a.Key})
		wantMap(t, nodeOf(t, s, a, b), 200, want)
		s.Radars[0], s.Radars[1] = s.Radars[1], s.Radars[0]
		wantMap(t, nodeOf(t, s, b, a), 200, want)
	}
}

func sign(n int) int { return max(-1, min(1, n)) }

// P11.5: of one radar, equal bands and equal times, the lesser tilt.
func TestMapTilts(t *testing.T) {
	s := networkOf("a")
	s.Radars[0].Site.Step = 50
	x := &noise{}
	for range 10 {
		n := nodeOf(t, s)
		for _, tilt := range shuffled(x, []int{2, 1, 3}) {
			offer(t, n, message("a", tilt, 100, pt(tilt)))
		}
		wantMap(t, n, 100, "1 a 1 100")
		offer(t, n, message("a", 3, 101, pt(7)))
		wantMap(t, n, 101, "7 a 3 101")
	}
}

// P11.5: pixels that no message sees, or just one.
func TestMapGaps(t *testing.T) {
	n := nodeOf(t, networkS(), messageA(100, 5))
	wantMap(t, n, 100, "5 a 0 100", "5 a 0 100", "5 a 0 100", "gap", "5 a 0 100", "5 a 0 100", "5 a 0 100", "gap")
	wantMap(t, n, 99, "gap", "gap", "gap", "gap", "gap", "gap", "gap", "gap")
	// A steep beam ends earlier: its borders are 0, 600, 1200 and 1800.
	n = nodeOf(t, networkS(), message("a", maxTilt, 100, messageA(100, 5).Vals...))
	wantMap(t, n, 100, "5 a 256 100", "5 a 256 100", "gap", "gap", "5 a 256 100", "5 a 256 100", "gap", "gap")
	f, e := n.Field(100)
	wantErr(t, "Field", e, api.OK)
	five, gap := pt(5), span(0, maxRate)
	wantSame(t, "Field", f, api.Field{Grid: networkS().Grid, Vals: []api.Span{five, five, gap, gap, five, five, gap, gap}})
	wantErr(t, "CheckField", beam.CheckField(f), api.OK)
}

// P11.5: each pixel shows its own value.
func TestMapValues(t *testing.T) {
	m := messageA(100, 5)
	for p := range m.Vals {
		m.Vals[p] = span(p, 10*p)
	}
	m.Vals[6] = span(0, maxRate) // known as little as a gap is
	l := mapAt(t, nodeOf(t, networkS(), m), 100)
	for p, x := range l {
		want := mosaic.Pixel{Value: m.Vals[p], Key: m.Key}
		if p%4 == 3 {
			want = mosaic.Pixel{Value: span(0, maxRate)}
		}
		wantSame(t, fmt.Sprint("the pixel ", p), x, want)
	}
}

// P11.5: the times of maps, and the horizon; ErrRange comes ahead of ErrLate.
func TestMapErrors(t *testing.T) {
	n := nodeOf(t, networkS(), messageA(100, 5), messageB(100, 7))
	wantForget(t, n, 100, 0, api.OK)
	for _, time := range append(extremes(), 99, 101) {
		want := api.OK
		if time < 0 || time > maxTime {
			want = api.ErrRange
		} else if time < 100 {
			want = api.ErrLate
		}
		l, e := n.Map(time)
		wantErr(t, fmt.Sprint("Map at ", time), e, want)
		wantSame(t, fmt.Sprint("pixels at ", time), len(l) == 8, e == api.OK)
		f, e := n.Field(time)
		wantErr(t, fmt.Sprint("Field at ", time), e, want)
		wantSame(t, fmt.Sprint("values at ", time), len(f.Vals) == 8, e == api.OK)
		wantSame(t, fmt.Sprint("the grid at ", time), f.Grid == networkS().Grid, e == api.OK)
		clashes, e := n.Clashes(time)
		wantErr(t, fmt.Sprint("Clashes at ", time), e, want)
		if e != api.OK {
			wantSame(t, fmt.Sprint("clashes at ", time), clashes, []mosaic.Clash{})
		}
	}
}

// P11.5: values and bands that have just one number in common, and none.
func TestClashes(t *testing.T) {
	for _, x := range []struct {
		what string
		a, b api.Span // values
		up   int      // how much higher the radar b is
		want bool
	}{
		{"equal points", pt(5), pt(5), 0, false},
		{"points that differ", pt(5), pt(6), 0, true},
		{"one number in common", span(0, 5), span(5, 9), 0, false},
		{"one number in common, the other way", span(5, 9), span(0, 5), 0, false},
		{"none", span(0, 5), span(6, 9), 0, true},
		{"none, the other way", span(6, 9), span(0, 5), 0, true},
		{"within", span(0, maxRate), pt(7), 0, false},
		{"none, far apart", pt(0), pt(maxRate), 0, true},
		{"bands with one height in common", pt(5), pt(6), 1, true},
		{"bands with one height in common, lower", pt(5), pt(6), -1, true},
		{"bands with none", pt(5), pt(6), 2, false},
		{"bands with none, lower", pt(5), pt(6), -2, false},
	} {
		s := networkOf("b", "a") // both have bands of two heights
		s.Radars[0].Site.Z += x.up
		n := nodeOf(t, s, message("b", 0, 100, x.b), message("a", 0, 100, x.a))
		var want []mosaic.Clash
		if x.want {
			want = []mosaic.Clash{{Pixel: 0, A: key("a", 0, 100), B: key("b", 0, 100)}}
		}
		wantSame(t, x.what, clashesAt(t, n, 100), want)
	}
}

// P11.5: messages of one radar do not clash, nor do some that are not used, or do
// not see the pixel.
func TestNoClashes(t *testing.T) {
	none := []mosaic.Clash{}
	s := networkOf("a", "b")
	s.Radars[0].Site.Step, s.Radars[1].Site.Step = 50, 50 // so that the tilts 1 and 2 have the same bands
	wantSame(t, "tilts of one radar", clashesAt(t, nodeOf(t, s, message("a", 1, 100, pt(1)), message("a", 2, 100, pt(2))), 100), none)
	n := nodeOf(t, s, message("a", 1, 100, pt(1)), message("b", 2, 110, pt(2)), message("b", 2, 120, pt(1)))
	one := []mosaic.Clash{{Pixel: 0, A: key("a", 1, 100), B: key("b", 2, 110)}}
	wantSame(t, "before", clashesAt(t, n, 109), none)
	wantSame(t, "while both are used", clashesAt(t, n, 110), one)
	wantSame(t, "while both are used", clashesAt(t, n, 119), one)
	wantSame(t, "behind a newer message", clashesAt(t, n, 120), none)
	offer(t, n, message("b", 2, 120, pt(3)))
	wantSame(t, "the newer one is contested", clashesAt(t, n, 120), one)
	offer(t, n, message("a", 1, 100, pt(2)))
	wantSame(t, "all is contested but one", clashesAt(t, n, 120), none)
	s = networkS()
	s.Radars[1].Site.X = 3500 // what it sees begins where that of the other one ends
	wantSame(t, "not the same pixels", clashesAt(t, nodeOf(t, s, messageA(100, 1), messageB(100, 9)), 120), none)
}

// P11.5: clashes by their pixels, then by both keys, of which A comes first.
func TestClashOrder(t *testing.T) {
	s := networkS()
	c := s.Radars[0]
	c.Site.Name = "aa"
	s.Radars = append(s.Radars, c)
	x := &noise{state: 5}
	l := []mosaic.Message{even("b", 90, 9), even("a", 100, 1), even("aa", 95, 5), message("a", 1, 90, even("a", 90, 3).Vals...)}
	for range 10 {
		n := nodeOf(t, s, shuffled(x, l)...)
		b, a, aa, steep := key("b", 0, 90), key("a", 0, 100), key("aa", 0, 95), key("a", 1, 90)
		both := func(p int) []mosaic.Clash { return []mosaic.Clash{{Pixel: p, A: aa, B: a}} }
		all := func(p int) []mosaic.Clash {
			return []mosaic.Clash{{Pixel: p, A: b, B: aa}, {Pixel: p, A: b, B: a}, {Pixel: p, A: aa, B: a}}
		}
		var want []mosaic.Clash
		for row := range 2 {
			want = append(want, both(4*row)...)
			want = append(want, all(4*row+1)...)
			want = append(want, all(4*row+2)...)
		}
		var low []mosaic.Clash // those without the tilt 1
		for _, clash := range clashesAt(t, n, 100) {
			if clash.A != steep && clash.B != steep {
				low = append(low, clash)
			}
		}
		wantSame(t, "Clashes", low, want)
		l, _ := (&ledger{spec: s, list: l}).Clashes(100)
		wantSame(t, "all clashes", clashesAt(t, n, 100), l)
	}
}

// P11.5: a full node of the largest network, in which all messages are used, and
// see nearly all pixels.
func TestLargest(t *testing.T) {
	s := mosaic.Spec{Grid: api.Grid{X: -1000, Y: -1000, Size: 31, Wide: 64, High: 64}, Earth: span(minEarth, maxEarth), Age: maxAge}
	for _, name := range radarNames(32) {
		s.Radars = append(s.Radars, mosaic.Radar{Site: api.Site{Name: name, Rose: 90, Gates: 200, Step: 50, Width: 8}})
	}
	n := nodeOf(t, s)
	for i := range maxMessages {
		m := message(s.Radars[i%32].Site.Name, i/32, 1000+i)
		for p := range 4096 {
			v := span(p%2, maxRate)
			if i == maxMessages-1 {
				v = pt(1) // which is in all others
			}
			m.Vals = append(m.Vals, v)
		}
		if isNew, e := n.Offer(m); !isNew || e != api.OK {
			t.Fatalf("the message %d: %v %d", i, isNew, e)
		}
	}
	wantSame(t, "clashes", len(clashesAt(t, n, 2000)), 0)
	l := mapAt(t, n, 2000)
	wantSame(t, "the pixel in the middle", l[32*64+32].Key.Name != "", true)
	wantSame(t, "Restore", restored(t, s, n.Snapshot()).Keys(), n.Keys())
	wantMerge(t, "a copy", n, n.Copy(), 0, api.OK)
}
