package rain

import "radome/api"

// up returns a quotient rounded up, where / rounds down: no number is below 0.
func up(num, den int) int { return (num + den - 1) / den }

// only returns the span of one number.
func only(n int) api.Span { return api.Span{Lo: n, Hi: n} }

// hull returns the least span that has all of some spans.
func hull(first api.Span, others ...api.Span) api.Span {
	for _, s := range others {
		first = api.Span{Lo: min(first.Lo, s.Lo), Hi: max(first.Hi, s.Hi)}
	}
	return first
}

// isWithin reports whether a span is valid, and within another one.
func isWithin(s, outer api.Span) bool {
	return outer.Lo <= s.Lo && s.Lo <= s.Hi && s.Hi <= outer.Hi
}

func isPower(s api.Span) bool { return isWithin(s, api.Span{Lo: 0, Hi: api.MaxPower}) }

func isRate(s api.Span) bool { return isWithin(s, unknownRate()) }

// unknownRate is all that is known of the rain where nothing is seen.
func unknownRate() api.Span { return api.Span{Lo: 0, Hi: MaxRate} }

func isIn(n, least, most int) bool { return least <= n && n <= most }
