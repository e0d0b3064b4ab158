package pulse

import "radome/api"

// rounding is how a quotient with a positive divisor becomes an integer.
type rounding func(num, den int) int

func down(num, den int) int {
	quotient := num / den
	if num%den < 0 {
		quotient--
	}
	return quotient
}

func up(num, den int) int { return -down(-num, den) }

// modulo returns what is left of a number of parts without whole turns.
func modulo(n int) int { return n - down(n, api.MaxTurn)*api.MaxTurn }

func isPart(n int) bool { return isIn(n, 0, api.MaxTurn-1) }

// isWithin reports whether a span is valid, and within another one.
func isWithin(s, outer api.Span) bool {
	return outer.Lo <= s.Lo && s.Lo <= s.Hi && s.Hi <= outer.Hi
}

func isIn(n, least, most int) bool { return least <= n && n <= most }
