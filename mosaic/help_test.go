package mosaic_test

import (
	"fmt"
	"math"
	"slices"
	"testing"

	"radome/api"
	"radome/mosaic"
)

const (
	maxTime     = 4294967296
	maxTilt     = 256
	maxRate     = 1000000
	maxAge      = 86400
	maxOffset   = 3600
	maxMessages = 256
	minEarth    = 1000000
	maxEarth    = 100000000
)

func span(lo, hi int) api.Span { return api.Span{Lo: lo, Hi: hi} }

func pt(n int) api.Span { return span(n, n) }

func key(name string, tilt, time int) mosaic.Key {
	return mosaic.Key{Name: name, Tilt: tilt, Time: time}
}

// networkS is the network S of the chapter's examples.
func networkS() mosaic.Spec {
	return mosaic.Spec{
		Grid:   api.Grid{X: -2000, Y: -1000, Size: 1000, Wide: 4, High: 2},
		Earth:  pt(8000000),
		Radars: []mosaic.Radar{{Site: site("a", -1500), Offset: pt(0)}, {Site: site("b", 1500), Offset: span(5, 10)}},
		Age:    600,
	}
}

func site(name string, x int) api.Site {
	return api.Site{Name: name, X: x, Y: -500, Z: 100, Rose: 1, Gates: 3, Step: 1000}
}

// networkOf returns one with a single pixel, in whose middle all its radars are,
// without offsets.
func networkOf(names ...string) mosaic.Spec {
	s := mosaic.Spec{Grid: api.Grid{Size: 2, Wide: 1, High: 1}, Earth: pt(8000000), Age: maxAge}
	for _, name := range names {
		r := mosaic.Radar{Site: site(name, 1)}
		r.Site.Y = 1
		s.Radars = append(s.Radars, r)
	}
	return s
}

// message returns one with values for each pixel.
func message(name string, tilt, time int, vals ...api.Span) mosaic.Message {
	return mosaic.Message{Key: key(name, tilt, time), Vals: vals}
}

// messageA and messageB are A(t, v) and B(t, v) of the chapter's examples.
func messageA(time, v int) mosaic.Message { return even("a", time, v) }

func messageB(time, v int) mosaic.Message { return even("b", time, v) }

func even(name string, time, v int) mosaic.Message {
	return message(name, 0, time, slices.Repeat([]api.Span{pt(v)}, 8)...)
}

func copied(m mosaic.Message) mosaic.Message {
	m.Vals = slices.Clone(m.Vals)
	return m
}

// nodeOf returns a node with some messages.
func nodeOf(t *testing.T, s mosaic.Spec, l ...mosaic.Message) *mosaic.Node {
	t.Helper()
	n, e := mosaic.New(s)
	if e != api.OK {
		t.Fatalf("New of %+v: error %d", s, e)
	}
	offer(t, n, l...)
	return n
}

// offer gives messages to a node that it does not have yet.
func offer(t *testing.T, n *mosaic.Node, l ...mosaic.Message) {
	t.Helper()
	for _, m := range l {
		wantOffer(t, fmt.Sprintf("%+v", m), n, m, true, api.OK)
	}
}

func wantOffer(t *testing.T, what string, n *mosaic.Node, m mosaic.Message, want bool, wantE api.Errno) {
	t.Helper()
	if got, e := n.Offer(m); got != want || e != wantE {
		t.Errorf("Offer, %s: %v %d, want %v %d", what, got, e, want, wantE)
	}
}

func wantMerge(t *testing.T, what string, n, o *mosaic.Node, want int, wantE api.Errno) {
	t.Helper()
	if got, e := n.Merge(o); got != want || e != wantE {
		t.Errorf("Merge, %s: %d %d, want %d %d", what, got, e, want, wantE)
	}
}

func wantForget(t *testing.T, n *mosaic.Node, time, want int, wantE api.Errno) {
	t.Helper()
	if got, e := n.Forget(time); got != want || e != wantE {
		t.Errorf("Forget of %d: %d %d, want %d %d", time, got, e, want, wantE)
	}
}

// mapAt returns the map of a node at a time.
func mapAt(t *testing.T, n *mosaic.Node, time int) []mosaic.Pixel {
	t.Helper()
	l, e := n.Map(time)
	wantErr(t, fmt.Sprint("Map at ", time), e, api.OK)
	return l
}

func clashesAt(t *testing.T, n *mosaic.Node, time int) []mosaic.Clash {
	t.Helper()
	l, e := n.Clashes(time)
	wantErr(t, fmt.Sprint("Clashes at ", time), e, api.OK)
	return l
}

// shown returns what is shown at a pixel, with the key in the order of the
// chapter's examples.
func shown(x mosaic.Pixel) string {
	if x.Key == (mosaic.Key{}) && x.Value == span(0, maxRate) {
		return "gap"
	}
	value := fmt.Sprint(x.Value.Lo)
	if x.Value.Lo != x.Value.Hi {
		value += fmt.Sprint(" to ", x.Value.Hi)
	}
	return fmt.Sprint(value, " ", x.Key.Name, " ", x.Key.Tilt, " ", x.Key.Time)
}

// wantMap checks the first pixels of a map.
func wantMap(t *testing.T, n *mosaic.Node, time int, want ...string) {
	t.Helper()
	l := mapAt(t, n, time)
	for p, w := range want {
		if p >= len(l) || shown(l[p]) != w {
			t.Errorf("Map at %d, the pixel %d: %+v, want %s", time, p, l, w)
		}
	}
}

func restored(t *testing.T, s mosaic.Spec, b []byte) *mosaic.Node {
	t.Helper()
	n, e := mosaic.Restore(s, b)
	if e != api.OK {
		t.Fatalf("Restore of %v: error %d", b, e)
	}
	return n
}

func missing(t *testing.T, n *mosaic.Node, keys ...mosaic.Key) []mosaic.Message {
	t.Helper()
	l, e := n.Missing(keys)
	wantErr(t, "Missing", e, api.OK)
	return l
}

// answerer is a node, or a ledger.
type answerer interface {
	Keys() []mosaic.Key
	Contested() []mosaic.Key
	Missing(keys []mosaic.Key) ([]mosaic.Message, api.Errno)
	Map(time int) ([]mosaic.Pixel, api.Errno)
	Field(time int) (api.Field, api.Errno)
	Clashes(time int) ([]mosaic.Clash, api.Errno)
	Horizon() int
	Snapshot() []byte
}

// answers returns those of all methods that only ask, at some times.
func answers(n answerer, times ...int) []string {
	keys := n.Keys()
	l := []string{fmt.Sprint("the keys: ", keys, ", contested: ", n.Contested(), ", horizon: ", n.Horizon()), fmt.Sprint("snapshot: ", n.Snapshot())}
	for _, keys := range [][]mosaic.Key{nil, keys, keys[:len(keys)/2], {key("a", 0, 100), key("b", 1, 90), key("", 0, 0)}} {
		m, e := n.Missing(keys)
		l = append(l, fmt.Sprint("missing behind ", keys, ": ", m, e))
	}
	for _, time := range append(times, -1, 0, maxTime, maxTime+1, n.Horizon()-1, n.Horizon()) {
		pixels, e := n.Map(time)
		l = append(l, fmt.Sprint("the map at ", time, ": ", pixels, e))
		f, e := n.Field(time)
		l = append(l, fmt.Sprint("the field at ", time, ": ", f, e))
		clashes, e := n.Clashes(time)
		l = append(l, fmt.Sprint("clashes at ", time, ": ", clashes, e))
	}
	return l
}

// wantAnswers checks that two lists of answers are the same.
func wantAnswers(t *testing.T, what string, got, want []string) {
	t.Helper()
	if len(got) != len(want) {
		t.Fatalf("%s: %d answers, want %d", what, len(got), len(want))
	}
	for i, s := range got {
		if s != want[i] {
			t.Fatalf("%s: %s, want %s", what, s, want[i])
		}
	}
}

func wantErr(t *testing.T, what string, got, want api.Errno) {
	t.Helper()
	if got != want {
		t.Errorf("%s: error %d, want %d", what, got, want)
	}
}

// wantSame checks that two results are the same; nil lists and empty ones are.
func wantSame(t *testing.T, what string, got, want any) {
	t.Helper()
	if g, w := fmt.Sprintf("%+v", got), fmt.Sprintf("%+v", want); g != w {
		t.Errorf("%s: %s, want %s", what, g, w)
	}
}

// checkLimits checks that a number is valid from the least one to the most.
func checkLimits(t *testing.T, what string, least, most int, check func(n int) api.Errno) {
	t.Helper()
	for n, want := range map[int]api.Errno{
		least: api.OK, most: api.OK,
		least - 1: api.ErrRange, most + 1: api.ErrRange, math.MinInt: api.ErrRange, math.MaxInt: api.ErrRange,
	} {
		wantErr(t, fmt.Sprint(what, " ", n), check(n), want)
	}
}

// checkSpans checks that a span is valid within another one only.
func checkSpans(t *testing.T, what string, least, most int, check func(s api.Span) api.Errno) {
	t.Helper()
	middle := least + (most-least)/2
	for s, want := range map[api.Span]api.Errno{
		span(least, most): api.OK, pt(least): api.OK, pt(most): api.OK, pt(middle): api.OK, span(middle, middle+1): api.OK,
		span(middle, middle-1): api.ErrRange, span(most, least): api.ErrRange, span(least, least-1): api.ErrRange, span(most+1, most): api.ErrRange,
		span(least-1, most): api.ErrRange, span(least, most+1): api.ErrRange, pt(least - 1): api.ErrRange, pt(most + 1): api.ErrRange,
		span(math.MinInt, middle): api.ErrRange, span(middle, math.MaxInt): api.ErrRange, span(math.MinInt, math.MaxInt): api.ErrRange, span(math.MaxInt, math.MinInt): api.ErrRange,
	} {
		wantErr(t, fmt.Sprint(what, " ", s), check(s), want)
	}
}

// extremes are numbers that no argument may be spoiled by.
func extremes() []int {
	return []int{math.MinInt, math.MinInt + 1, -1 << 32, -maxOffset, -1, 0, 1, 2, 3, 100, maxTilt, maxAge, maxRate, maxTime, maxTime + 1, math.MaxInt - 1, math.MaxInt}
}

// noise yields numbers that look like random ones, and are always the same.
type noise struct{ state uint64 }

func (n *noise) upTo(most int) int {
	n.state = n.state*6364136223846793005 + 1442695040888963407
	return int(n.state>>33) % (most + 1)
}

func (n *noise) of(l ...int) int { return l[n.upTo(len(l)-1)] }

func (n *noise) name() string { return []string{"a", "ab", "b"}[n.upTo(2)] }

// network returns a small one, often with radars whose bands are equal at some
// pixels.
func (n *noise) network() mosaic.Spec {
	s := mosaic.Spec{
		Grid:  api.Grid{X: -n.upTo(3000), Y: -n.upTo(3000), Size: n.of(1, 777, 1000, 1000), Wide: 1 + n.upTo(3), High: 1 + n.upTo(2)},
		Earth: pt(8000000),
		Age:   n.of(1, 5, 50, 100, 100, 300),
	}
	if n.upTo(2) == 0 {
		s.Earth = span(n.of(minEarth, 7000000), n.of(9000000, maxEarth))
	}
	z, step := n.upTo(200), n.of(50, 500, 1000, 1000)
	for _, name := range []string{"b", "a", "ab"}[n.upTo(2):] {
		r := mosaic.Radar{Site: api.Site{
			Name: name, X: -500 + n.of(0, 1000, n.upTo(1000)), Y: -500 + n.of(0, 1000, n.upTo(1000)),
			Z: n.of(z, z, z+n.upTo(20)), Rose: 1 + n.upTo(4), Gates: 1 + n.upTo(4), Step: step, Width: n.of(0, 0, 1, 2),
		}}
		r.Offset.Lo = n.of(0, 0, 5, -7)
		r.Offset.Hi = r.Offset.Lo + n.of(0, 0, 3, 20)
		s.Radars = append(s.Radars, r)
	}
	return s
}

// message returns one that nodes of a network often take.
func (n *noise) message(s mosaic.Spec) mosaic.Message {
	m := message(n.name(), n.of(0, 0, 1, 2, 10), n.of(60, 80, 90, 99, 100, 100, n.upTo(120)))
	for range s.Grid.Wide * s.Grid.High {
		lo := n.of(0, 5, 5, 10, n.upTo(20))
		m.Vals = append(m.Vals, span(lo, lo+n.of(0, 0, 5, n.upTo(10))))
	}
	return m
}

// rival returns a message with the key of another one.
func (n *noise) rival(m mosaic.Message) mosaic.Message {
	m = copied(m)
	p := n.upTo(len(m.Vals) - 1)
	if n.upTo(1) == 0 {
		m.Vals[p].Lo = n.upTo(m.Vals[p].Hi)
	}
	m.Vals[p].Hi += n.upTo(2)
	return m
}

// messages returns some, a few of which have the same keys, or are equal.
func (n *noise) messages(s mosaic.Spec, count int) []mosaic.Message {
	var l []mosaic.Message
	for range count {
		m := n.message(s)
		for !slices.ContainsFunc(s.Radars, func(r mosaic.Radar) bool { return r.Site.Name == m.Key.Name }) {
			m = n.message(s)
		}
		if len(l) > 0 && n.upTo(5) == 0 {
			m = n.rival(l[n.upTo(len(l)-1)])
		}
		l = append(l, m)
	}
	return l
}

// spoiled returns a message with an error, most of the time.
func (n *noise) spoiled(m mosaic.Message) mosaic.Message {
	m = copied(m)
	p := n.upTo(len(m.Vals) - 1)
	for range 1 + n.upTo(1) {
		switch n.upTo(6) {
		case 0:
			m.Key.Name = "c"
		case 1:
			m.Key.Tilt = n.of(-1, maxTilt+1)
		case 2:
			m.Key.Time = n.of(-1, maxTime+1)
		case 3:
			m.Vals = append(m.Vals, pt(0))
		case 4:
			m.Vals[p].Lo = m.Vals[p].Hi + 1
		case 5:
			m.Vals[p].Hi = maxRate + n.upTo(1)
		case 6:
			m.Vals[p].Lo = -n.upTo(1)
		}
	}
	return m
}

func shuffled[T any](n *noise, l []T) []T {
	l = slices.Clone(l)
	for i := range l {
		j := n.upTo(i)
		l[i], l[j] = l[j], l[i]
	}
	return l
}
