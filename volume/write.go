package volume

import (
	"slices"

	"radome/api"
)

// appendBlock appends the block of a valid item.
func appendBlock(b []byte, x Item) []byte {
	body := contentOf(x).appendBody(nil)
	b = append(b, 0)
	from := len(b)
	b = appendNumber(b, len(body))
	b = append(b, body...)
	return appendSum(b, sum(b[from:]))
}

func (s sweep) appendBody(b []byte) []byte {
	b = appendNumber(b, Sweep)
	b = appendText(b, s.Site.Name)
	b = appendInteger(b, s.Site.X)
	b = appendInteger(b, s.Site.Y)
	b = appendNumbers(b, s.Site.Z, s.Site.Rose, s.Site.Gates, s.Site.Step, s.Site.Width, s.Tilt, s.Time)
	return appendList(b, slices.Concat(s.Rays...), silence(), appendEcho)
}

func (f field) appendBody(b []byte) []byte {
	b = appendNumber(b, Field)
	b = appendText(b, f.name)
	b = appendNumber(b, f.time)
	b = appendInteger(b, f.Grid.X)
	b = appendInteger(b, f.Grid.Y)
	b = appendNumbers(b, f.Grid.Size, f.Grid.Wide, f.Grid.High)
	return appendList(b, f.Vals, api.Span{}, appendSpan)
}

func (n note) appendBody(b []byte) []byte {
	b = appendNumbers(b, Note, n.time)
	return appendText(b, n.text)
}

// appendList appends a list of things, with another one ahead of them: in turns how
// many are equal to the one before them, and the next one.
func appendList[T comparable](b []byte, l []T, before T, appendThing func(b []byte, x T) []byte) []byte {
	for len(l) > 0 {
		equal := slices.IndexFunc(l, func(x T) bool { return x != before })
		if equal < 0 {
			return appendNumber(b, len(l))
		}
		before = l[equal]
		b = appendThing(appendNumber(b, equal), before)
		l = l[equal+1:]
	}
	return b
}

// silence is the echo that stands ahead of all echoes of a sweep.
func silence() api.Echo { return api.Echo{Kind: api.Quiet} }

func appendEcho(b []byte, x api.Echo) []byte {
	b = appendNumber(b, x.Kind)
	if x.Kind == api.Quiet {
		return appendNumber(b, x.Power.Hi)
	}
	b = appendSpan(b, x.Power)
	b = appendSpan(b, x.Ratio)
	b = appendSpan(b, x.Match)
	b = appendNumber(b, x.Spread)
	if x.Kind == api.Clear {
		b = appendSpan(b, x.Steps[0])
		b = appendSpan(b, x.Steps[1])
		b = appendSpan(b, x.Turn)
	}
	return b
}

func appendSpan(b []byte, s api.Span) []byte {
	return appendNumber(appendInteger(b, s.Lo), s.Hi-s.Lo)
}

func appendText(b []byte, s string) []byte {
	return append(appendNumber(b, len(s)), s...)
}

func appendNumbers(b []byte, l ...int) []byte {
	for _, n := range l {
		b = appendNumber(b, n)
	}
	return b
}
