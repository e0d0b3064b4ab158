package mosaic

import (
	"cmp"
	"slices"

	"radome/api"
	"radome/beam"
)

// look is a message that is used, with what it sees.
type look struct {
	key   Key
	vals  []api.Span
	gates []int      // of each pixel the one to which it belongs, or -1
	bands []api.Span // of each gate
}

// Map returns what is shown at each pixel at a time; ErrRange if there is no
// such time, or ErrLate if it is below the horizon.
func (n *Node) Map(time int) ([]Pixel, api.Errno) {
	if e := n.checkTime(time); e != api.OK {
		return nil, e
	}
	k := n.kept
	return shown(k.looks(k.used(time)), k.spec.pixels()), api.OK
}

// Field returns the values that are shown at a time, or the error of Map.
func (n *Node) Field(time int) (api.Field, api.Errno) {
	l, e := n.Map(time)
	if e != api.OK {
		return api.Field{}, e
	}
	f := api.Field{Grid: n.kept.spec.Grid, Vals: make([]api.Span, len(l))}
	for p, x := range l {
		f.Vals[p] = x.Value
	}
	return f, api.OK
}

// Clashes returns all clashes at a time, or the error of Map.
func (n *Node) Clashes(time int) ([]Clash, api.Errno) {
	if e := n.checkTime(time); e != api.OK {
		return nil, e
	}
	k := n.kept
	keys := k.used(time)
	slices.SortFunc(keys, oldestFirst().compare)
	looks := k.looks(keys)
	var l []Clash
	for p := range k.spec.pixels() {
		l = append(l, clashes(seeing(looks, p), p)...)
	}
	return l, api.OK
}

// checkTime returns the error of a time at which a map is asked for.
func (n *Node) checkTime(time int) api.Errno {
	if n.isNone() {
		return api.ErrNil
	}
	if !isTime(time) {
		return api.ErrRange
	}
	if time < n.kept.horizon {
		return api.ErrLate
	}
	return api.OK
}

// used returns the keys of the messages that are used at a time, the newest
// ones first.
func (k *state) used(time int) []Key {
	var l []Key
	for _, x := range newestFirst().keys(k.messages) {
		isOld := slices.ContainsFunc(l, func(newer Key) bool { return newer.Name == x.Name && newer.Tilt == x.Tilt })
		if !isOld && k.fits(x, time) {
			l = append(l, x)
		}
	}
	return l
}

// fits reports whether the message with a key would be used at a time, if no
// newer one were.
func (k *state) fits(x Key, time int) bool {
	late := k.radar(x.Name).Offset
	return !k.isContested(x) && x.Time+late.Hi <= time && time-(x.Time+late.Lo) <= k.spec.Age
}

// radar returns the radar with a name, which a message has.
func (k *state) radar(name string) Radar {
	return k.spec.Radars[slices.IndexFunc(k.spec.Radars, isNamed(name))]
}

// looks returns what the messages with some keys see, which are not contested.
func (k *state) looks(keys []Key) []*look {
	l := make([]*look, len(keys))
	for i, x := range keys {
		site := k.radar(x.Name).Site
		// The network and the message are valid, so beam has no errors.
		gates, _ := beam.View(site, x.Tilt, k.spec.Grid)
		for p, n := range gates {
			if n >= 0 {
				gates[p] = n % site.Gates // View counts through all rays
			}
		}
		bands := make([]api.Span, site.Gates)
		for gate := range bands {
			bands[gate], _ = beam.Band(site, x.Tilt, k.spec.Earth, gate)
		}
		l[i] = &look{key: x, vals: k.messages[x][0], gates: gates, bands: bands}
	}
	return l
}

// shown returns what is shown at each pixel of some looks, the newest ones first.
func shown(looks []*look, pixels int) []Pixel {
	l := make([]Pixel, pixels)
pixels:
	for p := range l {
		for i, x := range looks {
			if x.sees(p) {
				best := x.orLower(looks[i+1:], p)
				l[p] = Pixel{Value: best.vals[p], Key: best.key}
				continue pixels
			}
		}
		l[p] = Pixel{Value: anyRate()}
	}
	return l
}

// orLower returns the look with the lowest band at a pixel, of one that sees it
// and of those behind it; the first one of those with equal bands.
func (x *look) orLower(others []*look, p int) *look {
	for _, other := range others {
		if other.sees(p) && compareBands(other.band(p), x.band(p)) < 0 {
			x = other
		}
	}
	return x
}

func compareBands(a, b api.Span) int {
	return cmp.Or(cmp.Compare(a.Hi, b.Hi), cmp.Compare(a.Lo, b.Lo))
}

// seeing returns the looks that see a pixel.
func seeing(looks []*look, p int) []*look {
	var l []*look
	for _, x := range looks {
		if x.sees(p) {
			l = append(l, x)
		}
	}
	return l
}

// clashes returns the clashes at a pixel of looks that see it, in the order of
// their keys.
func clashes(looks []*look, p int) []Clash {
	var l []Clash
	for i, a := range looks {
		for _, b := range looks[i+1:] {
			if a.contradicts(b, p) {
				l = append(l, Clash{Pixel: p, A: a.key, B: b.key})
			}
		}
	}
	return l
}

// contradicts reports whether two looks that see a pixel clash there.
func (x *look) contradicts(other *look, p int) bool {
	return !hasCommon(x.vals[p], other.vals[p]) && x.key.Name != other.key.Name && hasCommon(x.band(p), other.band(p))
}

func (x *look) sees(p int) bool { return x.gates[p] >= 0 }

// band returns the band of a look at a pixel that it sees.
func (x *look) band(p int) api.Span { return x.bands[x.gates[p]] }
