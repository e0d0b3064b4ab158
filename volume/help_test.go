package volume_test

import (
	"fmt"
	"math"
	"slices"
	"strings"
	"testing"

	"radome/api"
	"radome/volume"
)

const (
	maxTime  = 4294967296
	maxPower = 1073741824
	maxNote  = 200
	maxItems = 1000
	maxFile  = 16777216
)

func span(lo, hi int) api.Span { return api.Span{Lo: lo, Hi: hi} }

func pt(n int) api.Span { return span(n, n) }

func noteOf(time int, text string) volume.Item {
	return volume.Item{Kind: volume.Note, Time: time, Text: text}
}

// noteN is the note N of the chapter's examples.
func noteN() volume.Item { return noteOf(5, "a") }

func fieldOf(name string, time, wide, high int, vals ...api.Span) volume.Item {
	return volume.Item{Kind: volume.Field, Name: name, Time: time, Field: api.Field{
		Grid: api.Grid{X: 64, Y: -64, Size: 1000, Wide: wide, High: high}, Vals: vals,
	}}
}

// sweepOf returns a sweep with the echoes of all its rays, one behind the other.
func sweepOf(name string, time, rose, gates int, echoes ...api.Echo) volume.Item {
	s := api.Sweep{Site: api.Site{Name: name, X: -1, Y: 1, Z: 100, Rose: rose, Gates: gates, Step: 1000, Width: 1}, Tilt: 3, Time: time}
	for i := range 4 * rose {
		s.Rays = append(s.Rays, slices.Clone(echoes[i*gates:(i+1)*gates]))
	}
	return volume.Item{Kind: volume.Sweep, Sweep: s}
}

func quiet(hi int) api.Echo { return api.Echo{Kind: api.Quiet, Power: span(0, hi)} }

func mixed(power int) api.Echo {
	return api.Echo{Kind: api.Mixed, Power: span(power, power+1), Ratio: span(2, 5), Match: span(7, 7), Spread: 4}
}

func clearEcho(power int) api.Echo {
	return api.Echo{
		Kind: api.Clear, Power: pt(power), Steps: [2]api.Span{span(-32768, 32767), span(-1, 2)}, Spread: 65535,
		Ratio: span(0, 1000000), Match: span(0, 1000), Turn: span(32767, 98302),
	}
}

// few returns one item of each kind, each as short as it can be; a sweep and a
// field besides in which there are things that are equal.
func few() []volume.Item {
	return []volume.Item{
		noteN(),
		sweepOf("s", 7, 1, 1, quiet(0), quiet(5), mixed(3), clearEcho(130)),
		fieldOf("f", 300, 1, 1, span(3, 500)),
		sweepOf("sw", 5, 1, 2, quiet(0), quiet(0), mixed(9), mixed(9), mixed(9), clearEcho(1), quiet(0), quiet(0)),
		fieldOf("fi", 2, 3, 2, pt(0), span(0, 1), span(0, 1), pt(0), pt(7), pt(7)),
	}
}

func pack(t *testing.T, x volume.Item) []byte {
	t.Helper()
	b, e := volume.Pack(x)
	if e != api.OK {
		t.Fatalf("Pack of %+v: error %d", x, e)
	}
	return b
}

func write(t *testing.T, l ...volume.Item) []byte {
	t.Helper()
	b, e := volume.Write(l)
	if e != api.OK {
		t.Fatalf("Write of %+v: error %d", l, e)
	}
	return b
}

func join(t *testing.T, a, b []byte) []byte {
	t.Helper()
	joined, e := volume.Join(a, b)
	if e != api.OK {
		t.Fatalf("Join of %v and %v: error %d", a, b, e)
	}
	return joined
}

// wantRead checks what Read returns.
func wantRead(t *testing.T, what string, b []byte, l []volume.Item, good int, e api.Errno) {
	t.Helper()
	gotL, gotGood, gotE := volume.Read(b)
	if gotGood != good || gotE != e {
		t.Errorf("Read, %s: %d bytes, error %d; want %d, error %d", what, gotGood, gotE, good, e)
	}
	wantSame(t, "Read, "+what, gotL, l)
}

// wantSalvage checks what Salvage returns.
func wantSalvage(t *testing.T, what string, b []byte, l []volume.Item, lost int, e api.Errno) {
	t.Helper()
	gotL, gotLost, gotE := volume.Salvage(b)
	if gotLost != lost || gotE != e {
		t.Errorf("Salvage, %s: %d lost, error %d; want %d, error %d", what, gotLost, gotE, lost, e)
	}
	wantSame(t, "Salvage, "+what, gotL, l)
}

// wantBytes checks bytes, and an error.
func wantBytes(t *testing.T, what string, got []byte, gotE api.Errno, want []byte, wantE api.Errno) {
	t.Helper()
	if gotE != wantE || string(got) != string(want) {
		t.Errorf("%s: %v, error %d; want %v, error %d", what, short(got), gotE, short(want), wantE)
	}
}

// short returns the beginning of bytes.
func short(b []byte) string {
	if len(b) > 300 {
		return fmt.Sprint(b[:300], " and more, ", len(b), " in all")
	}
	return fmt.Sprint(b)
}

func wantErr(t *testing.T, what string, got, want api.Errno) {
	t.Helper()
	if got != want {
		t.Errorf("%s: error %d, want %d", what, got, want)
	}
}

// wantSame checks that two results are the same; nil lists and empty ones are.
func wantSame(t *testing.T, what string, got, want any) {
	t.Helper()
	if g, w := fmt.Sprintf("%+v", got), fmt.Sprintf("%+v", want); g != w {
		t.Errorf("%s: %.2000s, want %.2000s", what, g, w)
	}
}

// checkLimits checks that a number is valid from the least one to the most.
func checkLimits(t *testing.T, what string, least, most int, check func(n int) api.Errno) {
	t.Helper()
	for n, want := range map[int]api.Errno{
		least: api.OK, most: api.OK,
		least - 1: api.ErrRange, most + 1: api.ErrRange, math.MinInt: api.ErrRange, math.MaxInt: api.ErrRange,
	} {
		wantErr(t, fmt.Sprint(what, " ", n), check(n), want)
	}
}

// extremes are numbers that no argument may be spoiled by.
func extremes() []int {
	return []int{math.MinInt, math.MinInt + 1, -1 << 32, -1, 0, 1, 2, 3, 4, 100, maxPower, maxTime, maxTime + 1, math.MaxInt - 1, math.MaxInt}
}

// noise yields numbers that look like random ones, and are always the same.
type noise struct{ state uint64 }

func (n *noise) upTo(most int) int {
	n.state = n.state*6364136223846793005 + 1442695040888963407
	return int(n.state>>33) % (most + 1)
}

func (n *noise) of(l ...int) int { return l[n.upTo(len(l)-1)] }

func (n *noise) name() string { return []string{"a", "ab", "b", "c_1"}[n.upTo(3)] }

func (n *noise) span(most int) api.Span {
	lo := n.of(0, n.upTo(most), n.upTo(most))
	return span(lo, n.of(lo, lo+n.upTo(most-lo)))
}

// turn returns a span of parts of a turn.
func (n *noise) turn() api.Span {
	lo := n.upTo(65535) - 32768
	return span(lo, lo+n.of(0, n.upTo(100), n.upTo(65535)))
}

func (n *noise) echo() api.Echo {
	x := api.Echo{Kind: 1 + n.upTo(2)}
	if x.Kind == api.Quiet {
		x.Power.Hi = n.of(0, n.upTo(200), n.upTo(maxPower))
		return x
	}
	x.Power = n.span(n.of(1000, maxPower-1))
	x.Power.Lo, x.Power.Hi = x.Power.Lo+1, x.Power.Hi+1
	x.Ratio, x.Match, x.Spread = n.span(1000000), n.span(1000), n.upTo(65535)
	if x.Kind == api.Clear {
		x.Steps, x.Turn = [2]api.Span{n.turn(), n.turn()}, n.turn()
	}
	return x
}

// item returns a short one of any kind, often with things that are equal.
func (n *noise) item() volume.Item {
	time := n.of(0, n.upTo(5), n.upTo(5), n.upTo(maxTime-1)+1)
	switch n.upTo(2) {
	case 0:
		text := make([]byte, n.of(0, 1, n.upTo(maxNote), maxNote))
		for i := range text {
			text[i] = byte(' ' + n.upTo('~'-' '))
		}
		return noteOf(time, string(text))
	case 1:
		wide, high := 1+n.upTo(3), 1+n.upTo(3)
		few := []api.Span{pt(0), n.span(maxPower), n.span(300)}
		x := fieldOf(n.name(), time, wide, high)
		for range wide * high {
			x.Field.Vals = append(x.Field.Vals, few[n.upTo(2)])
		}
		x.Field.Grid.X, x.Field.Grid.Y = n.upTo(1<<21)-1<<20, n.upTo(200)-100
		x.Field.Grid.Size = 1 + n.upTo(9999)
		return x
	}
	rose, gates := 1+n.upTo(1), 1+n.upTo(3)
	few := []api.Echo{quiet(0), n.echo(), n.echo()}
	var echoes []api.Echo
	for range 4 * rose * gates {
		echoes = append(echoes, few[n.upTo(2)])
	}
	x := sweepOf(n.name(), time, rose, gates, echoes...)
	x.Sweep.Site.X, x.Sweep.Site.Y, x.Sweep.Site.Z = n.upTo(200)-100, n.upTo(1<<21)-1<<20, n.upTo(20000)
	x.Sweep.Site.Step, x.Sweep.Site.Width, x.Sweep.Tilt = 100+n.upTo(1900), n.upTo(8), n.upTo(256)
	return x
}

func (n *noise) items(count int) []volume.Item {
	var l []volume.Item
	for range count {
		l = append(l, n.item())
	}
	return l
}

func shuffled[T any](n *noise, l []T) []T {
	l = slices.Clone(l)
	for i := range l {
		j := n.upTo(i)
		l[i], l[j] = l[j], l[i]
	}
	return l
}

// notes returns so many short ones that differ.
func notes(count int) []volume.Item {
	var l []volume.Item
	for i := range count {
		l = append(l, noteOf(i, "n"))
	}
	return l
}

// loud returns a sweep in which no echo is equal to the one before it, and each has
// as many bytes as an echo can have.
func loud(name string, rose, gates int) volume.Item {
	var echoes []api.Echo
	for i := range 4 * rose * gates {
		x := clearEcho(1)
		x.Power = span(maxPower/2+i%2, maxPower)
		x.Steps[1], x.Ratio, x.Match = span(-32768, 32767), span(500000, 1000000), span(500, 1000)
		echoes = append(echoes, x)
	}
	return sweepOf(name, 5, rose, gates, echoes...)
}

// full returns items that differ, whose file has so many bytes, which are not very
// few.
func full(t *testing.T, size int) []volume.Item {
	t.Helper()
	l := []volume.Item{}
	left := size - len("RVF1")
	for _, gates := range []int{200, 20, 2} {
		x := loud("loud", 90, gates)
		for block := len(pack(t, x)); left > block+300; left -= block {
			x.Sweep.Time = len(l)
			l = append(l, x)
		}
	}
	noteHere := func(length int) volume.Item { return noteOf(127+len(l), strings.Repeat("x", length)) }
	empty := len(pack(t, noteHere(0)))
	for left >= 2*empty+100 {
		l = append(l, noteHere(100))
		left -= empty + 100
	}
	return append(l, noteHere(left-empty))
}
