package trace

import "radome/api"

// widened returns what becomes of a span from one time to another one, if all
// changes by at most a drift in a day.
func widened(s api.Span, drift, from, to int) api.Span {
	seconds := max(from, to) - min(from, to)
	more := up(drift*seconds, Day)
	return positive(api.Span{Lo: s.Lo - more, Hi: s.Hi + more})
}

// positive returns a span without what is below 1, where values and gains end.
func positive(s api.Span) api.Span { return api.Span{Lo: max(s.Lo, 1), Hi: s.Hi} }

// quotient returns the least span that has all quotients of two spans, neither
// of which has negative numbers, nor the divisors 0.
func quotient(s, by api.Span) api.Span {
	return api.Span{Lo: s.Lo / by.Hi, Hi: up(s.Hi, by.Lo)}
}

// thousandths returns a span in thousandths.
func thousandths(s api.Span) api.Span { return api.Span{Lo: 1000 * s.Lo, Hi: 1000 * s.Hi} }

// common returns what two spans have in common; if that is nothing, Lo is above
// Hi.
func common(a, b api.Span) api.Span {
	return api.Span{Lo: max(a.Lo, b.Lo), Hi: min(a.Hi, b.Hi)}
}

func isEmpty(s api.Span) bool { return s.Lo > s.Hi }

// only returns the span of one number.
func only(n int) api.Span { return api.Span{Lo: n, Hi: n} }

// up returns a quotient rounded up, where / rounds down: no number is below 0.
func up(num, den int) int { return (num + den - 1) / den }

// isWithin reports whether a span is valid, and within another one.
func isWithin(s, outer api.Span) bool {
	return outer.Lo <= s.Lo && s.Lo <= s.Hi && s.Hi <= outer.Hi
}

func isIn(n, least, most int) bool { return least <= n && n <= most }
