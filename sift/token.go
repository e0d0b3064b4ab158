package sift

import "strings"

// skip returns the first offset from one on at which a token can begin, or at
// which the text ends.
func skip(s string, at int) int {
	for at < len(s) {
		switch s[at] {
		case ' ', 9, 10, 13:
			at++
		case '#':
			at = lineEnd(s, at)
		default:
			return at
		}
	}
	return at
}

func lineEnd(s string, at int) int {
	for at < len(s) && s[at] != 10 {
		at++
	}
	return at
}

// tokenOf returns the token at the beginning of a string; none if there is no
// such token.
func tokenOf(s string) string {
	if word := wordOf(s); word != "" {
		return word
	}
	if number := numberOf(s); number != "" {
		return number
	}
	// A sign that begins with another one comes ahead of this.
	for _, sign := range [...]string{"<=", "<", ">=", ">", "=", "!=", "+", "-", "(", ")", ":", ";"} {
		if strings.HasPrefix(s, sign) {
			return sign
		}
	}
	return ""
}

// wordOf returns the word at the beginning of a string.
func wordOf(s string) string {
	if s == "" || !isLetter(s[0]) {
		return ""
	}
	end := 1
	for end < len(s) && (isLetter(s[end]) || isDigit(s[end]) || s[end] == '_') {
		end++
	}
	return s[:end]
}

// numberOf returns the number at the beginning of a string.
func numberOf(s string) string {
	if strings.HasPrefix(s, "0") {
		return "0"
	}
	end := 0
	for end < len(s) && isDigit(s[end]) {
		end++
	}
	return s[:end]
}

func isLetter(c byte) bool { return 'a' <= c && c <= 'z' }

func isDigit(c byte) bool { return '0' <= c && c <= '9' }
