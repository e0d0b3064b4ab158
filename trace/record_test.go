package trace_test

import (
	"math/big"
	"slices"

	"radome/api"
	"radome/beam"
	"radome/trace"
)

// The methods of record, and wantWidened, follow the definitions of the chapter
// word by word, so that they share nothing with the package.

// record is a list of entries, of which all answers are worked out anew.
type record []call

func (r record) of(kind int) record {
	var l record
	for _, c := range r {
		if c.kind == kind {
			l = append(l, c)
		}
	}
	return l
}

func (r record) radar(name string) (int, bool) {
	for _, c := range r.of(isRadar) {
		if c.name == name {
			return c.drift, true
		}
	}
	return 0, false
}

func (r record) standard(name string) (trace.Standard, bool) {
	for _, c := range r.of(isStandard) {
		if c.standard.Name == name {
			return c.standard, true
		}
	}
	return trace.Standard{}, false
}

// chain returns that of a standard that exists.
func (r record) chain(name string) []string {
	s, _ := r.standard(name)
	if s.Parent == "" {
		return []string{name}
	}
	return append([]string{name}, r.chain(s.Parent)...)
}

func (r record) isWithdrawn(name string) bool {
	is := false
	for _, c := range r {
		if c.name == name && (c.kind == isWithdrawal || c.kind == isReinstatement) {
			is = c.kind == isWithdrawal
		}
	}
	return is
}

func (r record) isVoid(name string) bool { return slices.ContainsFunc(r.chain(name), r.isWithdrawn) }

// made returns the value of a standard when it was made.
func (r record) made(s trace.Standard) api.Span {
	if s.Parent == "" {
		return s.Value
	}
	parent, _ := r.standard(s.Parent)
	p := r.at(parent, s.Time)
	return span(max(1, floor(p.Lo*s.Value.Lo, 1000)), ceil(p.Hi*s.Value.Hi, 1000))
}

// at returns the value of a standard at a time.
func (r record) at(s trace.Standard, time int) api.Span {
	return wantWidened(r.made(s), s.Drift, time-s.Time)
}

func wantWidened(s api.Span, drift, seconds int) api.Span {
	if seconds < 0 {
		seconds = -seconds
	}
	w := ceil(drift*seconds, day)
	return span(max(1, s.Lo-w), s.Hi+w)
}

// Radar returns the error of one more radar, and so do the other methods that
// are named like those of a book.
func (r record) Radar(c call) api.Errno {
	if len(r) >= 2000 {
		return api.ErrFull
	}
	if !beam.Name(c.name) {
		return api.ErrName
	}
	if _, found := r.radar(c.name); found {
		return api.ErrHave
	}
	if len(r.of(isRadar)) >= 32 {
		return api.ErrMany
	}
	if c.drift < 0 || c.drift > 1000000 {
		return api.ErrRange
	}
	return api.OK
}

func (r record) Define(s trace.Standard) api.Errno {
	if len(r) >= 2000 {
		return api.ErrFull
	}
	if !beam.Name(s.Name) {
		return api.ErrName
	}
	if _, found := r.standard(s.Name); found {
		return api.ErrHave
	}
	if len(r.of(isStandard)) >= 64 {
		return api.ErrMany
	}
	most := 1000000
	if s.Parent != "" {
		most = 100000
	}
	if s.Value.Lo < 1 || s.Value.Hi > most || s.Value.Lo > s.Value.Hi {
		return api.ErrRange
	}
	if s.Time < 0 || s.Until < s.Time || s.Until > maxTime || s.Drift < 0 || s.Drift > 1000000 {
		return api.ErrRange
	}
	if s.Parent == "" {
		return api.OK
	}
	parent, found := r.standard(s.Parent)
	if !found {
		return api.ErrNone
	}
	if r.isVoid(s.Parent) || s.Time < parent.Time || s.Time > parent.Until {
		return api.ErrStale
	}
	if r.made(s).Hi > 1000000000 {
		return api.ErrOver
	}
	return api.OK
}

func (r record) Test(c trace.Test) (int, api.Errno) {
	if len(r) >= 2000 {
		return 0, api.ErrFull
	}
	_, found := r.radar(c.Radar)
	s, known := r.standard(c.Standard)
	if !found || !known {
		return 0, api.ErrNone
	}
	number := len(r.of(isTest))
	if number >= 512 {
		return 0, api.ErrMany
	}
	if c.Time < 0 || c.Time > maxTime {
		return 0, api.ErrRange
	}
	if c.Reading.Lo < 1 || c.Reading.Hi > 1000000000 || c.Reading.Lo > c.Reading.Hi {
		return 0, api.ErrRange
	}
	if r.isVoid(c.Standard) || c.Time < s.Time || c.Time > s.Until {
		return 0, api.ErrStale
	}
	return number, api.OK
}

func (r record) mark(c call) api.Errno {
	if len(r) >= 2000 {
		return api.ErrFull
	}
	if _, found := r.standard(c.name); !found {
		return api.ErrNone
	}
	if r.isWithdrawn(c.name) == (c.kind == isWithdrawal) {
		return api.ErrState
	}
	return api.OK
}

// answer returns what a call has to return.
func (r record) answer(c call) (int, api.Errno) {
	switch c.kind {
	case isRadar:
		return 0, r.Radar(c)
	case isStandard:
		return 0, r.Define(c.standard)
	case isTest:
		return r.Test(c.test)
	}
	return 0, r.mark(c)
}

func (r record) Value(name string, time int) (api.Span, api.Errno) {
	s, found := r.standard(name)
	if !found {
		return api.Span{}, api.ErrNone
	}
	if r.isVoid(name) || time < s.Time || time > s.Until {
		return api.Span{}, api.ErrStale
	}
	return r.at(s, time), api.OK
}

// gain returns the gain by a test at a time.
func (r record) gain(c trace.Test, time int) api.Span {
	s, _ := r.standard(c.Standard)
	drift, _ := r.radar(c.Radar)
	v := r.at(s, c.Time)
	then := span(max(1, floor(1000*c.Reading.Lo, v.Hi)), ceil(1000*c.Reading.Hi, v.Lo))
	return wantWidened(then, drift, time-c.Time)
}

func (r record) Gain(radar string, time int) (api.Span, [2]int, api.Errno) {
	if _, found := r.radar(radar); !found {
		return api.Span{}, [2]int{}, api.ErrNone
	}
	if time < 0 || time > maxTime {
		return api.Span{}, [2]int{}, api.ErrRange
	}
	var numbers []int
	var gains []api.Span
	for i, c := range r.of(isTest) {
		if c.test.Radar == radar && !r.isVoid(c.test.Standard) {
			numbers, gains = append(numbers, i), append(gains, r.gain(c.test, time))
		}
	}
	if len(gains) == 0 {
		return api.Span{}, [2]int{}, api.ErrEmpty
	}
	all := gains[0]
	for i, g := range gains {
		for j := i + 1; j < len(gains); j++ {
			if g.Hi < gains[j].Lo || gains[j].Hi < g.Lo {
				return api.Span{}, [2]int{numbers[i], numbers[j]}, api.ErrConflict
			}
		}
		all = span(max(all.Lo, g.Lo), min(all.Hi, g.Hi))
	}
	return all, [2]int{}, api.OK
}

func (r record) Chain(number int) ([]string, api.Errno) {
	tests := r.of(isTest)
	if number < 0 || number >= len(tests) {
		return nil, api.ErrNone
	}
	return r.chain(tests[number].test.Standard), api.OK
}

func (r record) Depends(name string) (standards []string, tests []int, e api.Errno) {
	if _, found := r.standard(name); !found {
		return nil, nil, api.ErrNone
	}
	for _, c := range r.of(isStandard) {
		if slices.Contains(r.chain(c.standard.Name), name) {
			standards = append(standards, c.standard.Name)
		}
	}
	for i, c := range r.of(isTest) {
		if slices.Contains(r.chain(c.test.Standard), name) {
			tests = append(tests, i)
		}
	}
	return standards, tests, api.OK
}

func floor(num, den int) int {
	x := big.NewRat(int64(num), int64(den))
	return int(new(big.Int).Div(x.Num(), x.Denom()).Int64())
}

func ceil(num, den int) int { return -floor(-num, den) }
