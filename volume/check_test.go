package volume_test

import (
	"fmt"
	"math"
	"slices"
	"strings"
	"testing"

	"radome/api"
	"radome/volume"
)

// wantChecked checks that Check, Pack, Write and Append return the same error of an
// item.
func wantChecked(t *testing.T, what string, x volume.Item, want api.Errno) {
	t.Helper()
	wantErr(t, "Check, "+what, volume.Check(x), want)
	var block, file []byte
	if want == api.OK {
		block, file = wantBlock(x), wantFile(x)
	}
	b, e := volume.Pack(x)
	wantBytes(t, "Pack, "+what, b, e, block, want)
	b, e = volume.Write([]volume.Item{x})
	wantBytes(t, "Write, "+what, b, e, file, want)
	b, e = volume.Append([]byte("RVF1"), x)
	wantBytes(t, "Append, "+what, b, e, file, want)
}

// sweepS and fieldF are valid.
func sweepS() volume.Item { return few()[1] }

func fieldF() volume.Item { return few()[2] }

// P12.1: kinds that there are, and others.
func TestCheckKinds(t *testing.T) {
	for _, x := range few() {
		wantChecked(t, fmt.Sprint("the kind ", x.Kind), x, api.OK)
		for _, kind := range append(extremes(), 5, 254, 257, 258, 259) {
			other := x
			other.Kind = kind
			if kind != x.Kind {
				wantChecked(t, fmt.Sprint("the kind ", kind, " instead of ", x.Kind), other, api.ErrArg)
			}
		}
	}
	for kind, want := range []api.Errno{api.ErrArg, api.ErrName, api.ErrName, api.OK, api.ErrArg} {
		wantChecked(t, fmt.Sprint("the kind ", kind, " and nothing else"), volume.Item{Kind: kind}, want)
	}
}

// P12.1: each field that another kind has, ahead of all other errors.
func TestCheckOtherFields(t *testing.T) {
	changes := []struct {
		what   string
		kinds  []int // that have it
		change func(x *volume.Item)
	}{
		{"Name", []int{2}, func(x *volume.Item) { x.Name = "a" }},
		{"Name that is none", []int{}, func(x *volume.Item) { x.Name = " " }},
		{"Time", []int{2, 3}, func(x *volume.Item) { x.Time = 1 }},
		{"Time that is none", []int{}, func(x *volume.Item) { x.Time = -1 }},
		{"Text", []int{3}, func(x *volume.Item) { x.Text = " " }},
		{"Text that is none", []int{}, func(x *volume.Item) { x.Text = "\x00" }},
		{"Sweep.Site.Name", []int{1}, func(x *volume.Item) { x.Sweep.Site.Name = "a" }},
		{"Sweep.Site.X", []int{1}, func(x *volume.Item) { x.Sweep.Site.X = 1 }},
		{"Sweep.Site.Y", []int{1}, func(x *volume.Item) { x.Sweep.Site.Y = -1 }},
		{"Sweep.Site.Z", []int{1}, func(x *volume.Item) { x.Sweep.Site.Z = 1 }},
		{"Sweep.Site.Rose", []int{}, func(x *volume.Item) { x.Sweep.Site.Rose = -1 }},
		{"Sweep.Site.Gates", []int{}, func(x *volume.Item) { x.Sweep.Site.Gates = -1 }},
		{"Sweep.Site.Step", []int{}, func(x *volume.Item) { x.Sweep.Site.Step = -1 }},
		{"Sweep.Site.Width", []int{1}, func(x *volume.Item) { x.Sweep.Site.Width = 1 }},
		{"Sweep.Tilt", []int{1}, func(x *volume.Item) { x.Sweep.Tilt = 1 }},
		{"Sweep.Time", []int{1}, func(x *volume.Item) { x.Sweep.Time = 1 }},
		{"Sweep.Rays", []int{}, func(x *volume.Item) { x.Sweep.Rays = [][]api.Echo{nil} }},
		{"Field.Grid.X", []int{2}, func(x *volume.Item) { x.Field.Grid.X = 1 }},
		{"Field.Grid.Y", []int{2}, func(x *volume.Item) { x.Field.Grid.Y = 1 }},
		{"Field.Grid.Size", []int{2}, func(x *volume.Item) { x.Field.Grid.Size = 1 }},
		{"Field.Grid.Wide", []int{}, func(x *volume.Item) { x.Field.Grid.Wide = math.MinInt }},
		{"Field.Grid.High", []int{}, func(x *volume.Item) { x.Field.Grid.High = math.MaxInt }},
		{"Field.Vals", []int{}, func(x *volume.Item) { x.Field.Vals = []api.Span{{}} }},
	}
	for _, c := range changes {
		for _, x := range few() {
			what := fmt.Sprint("the kind ", x.Kind, " with ", c.what)
			changed := x
			c.change(&changed)
			isOwn := strings.HasPrefix(c.what, "Sweep") && x.Kind == 1 || strings.HasPrefix(c.what, "Field") && x.Kind == 2 ||
				strings.HasPrefix(c.what, "Name") && x.Kind == 2 || strings.HasPrefix(c.what, "Time") && x.Kind != 1 || strings.HasPrefix(c.what, "Text") && x.Kind == 3
			switch {
			case slices.Contains(c.kinds, x.Kind):
				wantChecked(t, what, changed, api.OK)
			case !isOwn:
				wantChecked(t, what, changed, api.ErrArg)
				empty := volume.Item{Kind: x.Kind}
				c.change(&empty)
				wantChecked(t, what+" and nothing else", empty, api.ErrArg)
			}
		}
	}
}

// P12.1, R3: lists that are empty, and not nil.
func TestCheckEmptyLists(t *testing.T) {
	for _, x := range few() {
		changed := x
		if x.Kind != volume.Sweep {
			changed.Sweep.Rays = [][]api.Echo{}
		}
		if x.Kind != volume.Field {
			changed.Field.Vals = []api.Span{}
		}
		wantChecked(t, fmt.Sprint("the kind ", x.Kind, " with empty lists"), changed, api.OK)
		wantSame(t, "the same block", pack(t, changed), pack(t, x))
	}
	x := sweepS()
	x.Sweep.Rays = [][]api.Echo{}
	wantChecked(t, "no rays", x, api.ErrShape)
	x = fieldF()
	x.Field.Vals = nil
	wantChecked(t, "no values", x, api.ErrShape)
}

// P12.1: names of fields, and of the sites of sweeps.
func TestCheckNames(t *testing.T) {
	for name, want := range map[string]api.Errno{
		"a": api.OK, "z": api.OK, "a_9": api.OK, "abcdefghijkl": api.OK, "a___________": api.OK,
		"": api.ErrName, "abcdefghijklm": api.ErrName, "A": api.ErrName, "1": api.ErrName, "_": api.ErrName, "a b": api.ErrName, "a-": api.ErrName, "a\x00": api.ErrName, "ä": api.ErrName,
		"`": api.ErrName, "{": api.ErrName, "aA": api.ErrName, strings.Repeat("a", 5000): api.ErrName,
	} {
		f, s := fieldF(), sweepS()
		f.Name, s.Sweep.Site.Name = name, name
		wantChecked(t, fmt.Sprintf("a field with the name %q", name), f, want)
		wantChecked(t, fmt.Sprintf("a sweep of the site %q", name), s, want)
	}
}

// P12.1: times of items, and the numbers of sites, sweeps and grids.
func TestCheckNumbers(t *testing.T) {
	checkLimits(t, "Time of a note", 0, maxTime, func(n int) api.Errno { return volume.Check(noteOf(n, "a")) })
	ofField := func(change func(x *volume.Item, n int)) func(n int) api.Errno {
		return func(n int) api.Errno { x := fieldF(); change(&x, n); return volume.Check(x) }
	}
	checkLimits(t, "Time of a field", 0, maxTime, ofField(func(x *volume.Item, n int) { x.Time = n }))
	checkLimits(t, "X", -1048576, 1048576, ofField(func(x *volume.Item, n int) { x.Field.Grid.X = n }))
	checkLimits(t, "Y", -1048576, 1048576, ofField(func(x *volume.Item, n int) { x.Field.Grid.Y = n }))
	checkLimits(t, "Size", 1, 10000, ofField(func(x *volume.Item, n int) { x.Field.Grid.Size = n }))
	checkLimits(t, "a value", 0, maxPower, ofField(func(x *volume.Item, n int) { x.Field.Vals[0] = pt(n) }))
	ofSweep := func(change func(x *api.Sweep, n int)) func(n int) api.Errno {
		return func(n int) api.Errno { x := sweepS(); change(&x.Sweep, n); return volume.Check(x) }
	}
	checkLimits(t, "Time of a sweep", 0, maxTime, ofSweep(func(s *api.Sweep, n int) { s.Time = n }))
	checkLimits(t, "Tilt", 0, 256, ofSweep(func(s *api.Sweep, n int) { s.Tilt = n }))
	checkLimits(t, "X of a site", -1048576, 1048576, ofSweep(func(s *api.Sweep, n int) { s.Site.X = n }))
	checkLimits(t, "Z", 0, 20000, ofSweep(func(s *api.Sweep, n int) { s.Site.Z = n }))
	checkLimits(t, "Width", 0, 8, ofSweep(func(s *api.Sweep, n int) { s.Site.Width = n }))
	checkLimits(t, "Power.Hi", 0, maxPower, ofSweep(func(s *api.Sweep, n int) { s.Rays[0][0].Power.Hi = n }))
}

// P12.1: texts as long as they may be, and longer; bytes that they may have.
func TestCheckTexts(t *testing.T) {
	for length, want := range map[int]api.Errno{0: api.OK, 1: api.OK, 126: api.OK, 127: api.OK, 199: api.OK, 200: api.OK, 201: api.ErrLong, 5000: api.ErrLong} {
		wantChecked(t, fmt.Sprint("a text of ", length, " bytes"), noteOf(5, strings.Repeat("~", length)), want)
		wantChecked(t, fmt.Sprint("a text of ", length, " spaces"), noteOf(5, strings.Repeat(" ", length)), want)
	}
	for c := range 256 {
		want := api.ErrForm
		if ' ' <= c && c <= '~' {
			want = api.OK
		}
		for _, text := range []string{string([]byte{byte(c)}), "a" + string([]byte{byte(c)}), string([]byte{byte(c)}) + strings.Repeat("z", 199)} {
			wantChecked(t, fmt.Sprintf("the text %q", text), noteOf(5, text), want)
		}
	}
}

// P12.1: of several errors the one counts that is named first.
func TestCheckOrder(t *testing.T) {
	x := noteOf(0, strings.Repeat("a", 201)+"\x00")
	wantChecked(t, "a long text with another byte", x, api.ErrLong)
	x.Time = -1
	wantChecked(t, "the time besides", x, api.ErrRange)
	x.Name = "a"
	wantChecked(t, "a name besides", x, api.ErrArg)

	x = fieldF()
	x.Field.Vals = nil
	wantChecked(t, "no values", x, api.ErrShape)
	x.Field.Grid.Wide = 0
	wantChecked(t, "the grid besides", x, api.ErrRange)
	x = fieldF()
	x.Field.Vals = nil
	x.Time = maxTime + 1
	wantChecked(t, "no values, and the time", x, api.ErrRange)
	x.Name = "A"
	wantChecked(t, "the name besides", x, api.ErrName)
	x.Text = "a"
	wantChecked(t, "a text besides", x, api.ErrArg)

	x = sweepS()
	x.Sweep.Rays[0][0].Kind = 4
	wantChecked(t, "the kind of an echo", x, api.ErrArg)
	x.Sweep.Rays[3] = nil
	wantChecked(t, "a ray besides", x, api.ErrShape)
	x.Sweep.Tilt = -1
	wantChecked(t, "the tilt besides", x, api.ErrRange)
	x.Sweep.Site.Name = ""
	wantChecked(t, "the name besides", x, api.ErrName)
	x.Time = 5
	wantChecked(t, "a time besides", x, api.ErrArg)
}
