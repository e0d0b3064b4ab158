package mosaic_test

import (
	"slices"

	"radome/api"
	"radome/beam"
	"radome/mosaic"
)

// ledger is a node by the definitions of the chapter, word by word: a list of
// messages, from which every answer is worked out anew. It finds the gate of each
// pixel by its place, and shares nothing with the package.
type ledger struct {
	spec    mosaic.Spec
	horizon int
	list    []mosaic.Message
}

func (l *ledger) copied() *ledger {
	return &ledger{l.spec, l.horizon, slices.Clone(l.list)}
}

func (l *ledger) radar(name string) (mosaic.Radar, bool) {
	for _, r := range l.spec.Radars {
		if r.Site.Name == name {
			return r, true
		}
	}
	return mosaic.Radar{}, false
}

// wantError returns the error of a message.
func (l *ledger) wantError(m mosaic.Message) api.Errno {
	if _, isThere := l.radar(m.Key.Name); !isThere {
		return api.ErrNone
	}
	if m.Key.Tilt < 0 || m.Key.Tilt > maxTilt || m.Key.Time < 0 || m.Key.Time > maxTime {
		return api.ErrRange
	}
	if len(m.Vals) != l.spec.Grid.Wide*l.spec.Grid.High {
		return api.ErrShape
	}
	for _, v := range m.Vals {
		if v.Lo > v.Hi || v.Lo < 0 || v.Hi > maxRate {
			return api.ErrRange
		}
	}
	return api.OK
}

func (l *ledger) has(m mosaic.Message) bool {
	return slices.ContainsFunc(l.list, func(x mosaic.Message) bool { return x.Key == m.Key && slices.Equal(x.Vals, m.Vals) })
}

func (l *ledger) Offer(m mosaic.Message) (bool, api.Errno) {
	if e := l.wantError(m); e != api.OK {
		return false, e
	}
	if m.Key.Time < l.horizon {
		return false, api.ErrLate
	}
	if l.has(m) {
		return false, api.OK
	}
	if len(l.list) == maxMessages {
		return false, api.ErrFull
	}
	l.list = append(l.list, copied(m))
	return true, api.OK
}

func (l *ledger) Merge(o *ledger) (int, api.Errno) {
	both := l.copied()
	both.Forget(o.horizon)
	count := 0
	for _, m := range o.list {
		if m.Key.Time >= both.horizon && !both.has(m) {
			both.list = append(both.list, copied(m))
			count++
		}
	}
	if len(both.list) > maxMessages {
		return 0, api.ErrFull
	}
	*l = *both
	return count, api.OK
}

func (l *ledger) Forget(time int) (int, api.Errno) {
	if time < 0 || time > maxTime {
		return 0, api.ErrRange
	}
	if time <= l.horizon {
		return 0, api.OK
	}
	before := len(l.list)
	l.horizon = time
	l.list = slices.DeleteFunc(slices.Clone(l.list), func(m mosaic.Message) bool { return m.Key.Time < time })
	return before - len(l.list), api.OK
}

func (l *ledger) Horizon() int { return l.horizon }

// isAhead reports whether a key comes ahead of another one.
func isAhead(a, b mosaic.Key) bool {
	if a.Time != b.Time {
		return a.Time < b.Time
	}
	if a.Name != b.Name {
		return a.Name < b.Name
	}
	return a.Tilt < b.Tilt
}

// areAhead reports whether Vals come ahead of other ones.
func areAhead(a, b []api.Span) bool {
	for i, v := range a {
		if v.Lo != b[i].Lo {
			return v.Lo < b[i].Lo
		}
		if v.Hi != b[i].Hi {
			return v.Hi < b[i].Hi
		}
	}
	return false
}

// inOrder returns all messages in the order of a snapshot.
func (l *ledger) inOrder() []mosaic.Message {
	var sorted []mosaic.Message
	for _, m := range l.list {
		at := 0
		for at < len(sorted) && (isAhead(sorted[at].Key, m.Key) || sorted[at].Key == m.Key && areAhead(sorted[at].Vals, m.Vals)) {
			at++
		}
		sorted = slices.Insert(sorted, at, m)
	}
	return sorted
}

func (l *ledger) isContested(x mosaic.Key) bool {
	for i, m := range l.list {
		for _, other := range l.list[:i] {
			if m.Key == x && other.Key == x && !slices.Equal(m.Vals, other.Vals) {
				return true
			}
		}
	}
	return false
}

func (l *ledger) Keys() []mosaic.Key {
	var keys []mosaic.Key
	for _, m := range l.inOrder() {
		if !slices.Contains(keys, m.Key) {
			keys = append(keys, m.Key)
		}
	}
	return keys
}

func (l *ledger) Contested() []mosaic.Key {
	var keys []mosaic.Key
	for _, x := range l.Keys() {
		if l.isContested(x) {
			keys = append(keys, x)
		}
	}
	return keys
}

func (l *ledger) Missing(keys []mosaic.Key) ([]mosaic.Message, api.Errno) {
	if len(keys) > maxMessages {
		return nil, api.ErrMany
	}
	var missing []mosaic.Message
	for _, m := range l.inOrder() {
		if !slices.Contains(keys, m.Key) || l.isContested(m.Key) {
			missing = append(missing, m)
		}
	}
	return missing, api.OK
}

// fits reports whether a message is used at a time, if no newer one is.
func (l *ledger) fits(m mosaic.Message, time int) bool {
	r, _ := l.radar(m.Key.Name)
	isBehind := m.Key.Time+r.Offset.Hi <= time
	isRecent := time <= m.Key.Time+r.Offset.Lo+l.spec.Age
	return !l.isContested(m.Key) && isBehind && isRecent
}

func (l *ledger) isUsed(m mosaic.Message, time int) bool {
	return l.fits(m, time) && !slices.ContainsFunc(l.list, func(o mosaic.Message) bool {
		return o.Key.Name == m.Key.Name && o.Key.Tilt == m.Key.Tilt && o.Key.Time > m.Key.Time && l.fits(o, time)
	})
}

// band returns the one that a message has at a pixel, if it sees it.
func (l *ledger) band(m mosaic.Message, p int) (api.Span, bool) {
	g := l.spec.Grid
	x := g.X + p%g.Wide*g.Size + g.Size/2
	y := g.Y + p/g.Wide*g.Size + g.Size/2
	r, _ := l.radar(m.Key.Name)
	_, gate, e := beam.Find(r.Site, m.Key.Tilt, x, y)
	if e != api.OK {
		return api.Span{}, false
	}
	b, e := beam.Band(r.Site, m.Key.Tilt, l.spec.Earth, gate)
	return b, e == api.OK
}

// seers returns the messages that are used at a time, and see a pixel, in the
// order of their keys.
func (l *ledger) seers(time, p int) []mosaic.Message {
	var seers []mosaic.Message
	for _, m := range l.inOrder() {
		if _, sees := l.band(m, p); sees && l.isUsed(m, time) {
			seers = append(seers, m)
		}
	}
	return seers
}

// isRather reports whether a message is shown at a pixel that it sees, rather
// than another one.
func (l *ledger) isRather(m, other mosaic.Message, p int) bool {
	a, _ := l.band(m, p)
	b, _ := l.band(other, p)
	if a.Hi != b.Hi {
		return a.Hi < b.Hi
	}
	if a.Lo != b.Lo {
		return a.Lo < b.Lo
	}
	if m.Key.Time != other.Key.Time {
		return m.Key.Time > other.Key.Time
	}
	if m.Key.Name != other.Key.Name {
		return m.Key.Name < other.Key.Name
	}
	return m.Key.Tilt < other.Key.Tilt
}

func (l *ledger) wantTime(time int) api.Errno {
	if time < 0 || time > maxTime {
		return api.ErrRange
	}
	if time < l.horizon {
		return api.ErrLate
	}
	return api.OK
}

func (l *ledger) Map(time int) ([]mosaic.Pixel, api.Errno) {
	if e := l.wantTime(time); e != api.OK {
		return nil, e
	}
	var pixels []mosaic.Pixel
	for p := range l.spec.Grid.Wide * l.spec.Grid.High {
		x := mosaic.Pixel{Value: span(0, maxRate)}
		seers := l.seers(time, p)
		for _, m := range seers {
			if !slices.ContainsFunc(seers, func(other mosaic.Message) bool { return l.isRather(other, m, p) }) {
				x = mosaic.Pixel{Value: m.Vals[p], Key: m.Key}
			}
		}
		pixels = append(pixels, x)
	}
	return pixels, api.OK
}

func (l *ledger) Field(time int) (api.Field, api.Errno) {
	pixels, e := l.Map(time)
	if e != api.OK {
		return api.Field{}, e
	}
	f := api.Field{Grid: l.spec.Grid}
	for _, x := range pixels {
		f.Vals = append(f.Vals, x.Value)
	}
	return f, api.OK
}

func haveCommon(a, b api.Span) bool { return max(a.Lo, b.Lo) <= min(a.Hi, b.Hi) }

func (l *ledger) Clashes(time int) ([]mosaic.Clash, api.Errno) {
	if e := l.wantTime(time); e != api.OK {
		return nil, e
	}
	var clashes []mosaic.Clash
	for p := range l.spec.Grid.Wide * l.spec.Grid.High {
		seers := l.seers(time, p)
		for i, a := range seers {
			for _, b := range seers[i+1:] {
				one, _ := l.band(a, p)
				other, _ := l.band(b, p)
				if a.Key.Name != b.Key.Name && haveCommon(one, other) && !haveCommon(a.Vals[p], b.Vals[p]) {
					clashes = append(clashes, mosaic.Clash{Pixel: p, A: a.Key, B: b.Key})
				}
			}
		}
	}
	return clashes, api.OK
}

func (l *ledger) Snapshot() []byte { return sealed(piecesOf(l.horizon, l.inOrder()...)) }
