package volume

// Numbers are written to a base that leaves no digit the byte 0, and so that the
// last digit is known as such.
const (
	base      = 127
	goesOn    = 128 // stands ahead of each digit but the last one
	ends      = 1   // stands ahead of the last digit
	maxDigits = 8
	sumDigits = 5
)

// appendNumber appends a number, with as few digits as possible.
func appendNumber(b []byte, n int) []byte {
	for ; n >= base; n /= base {
		b = append(b, byte(goesOn+n%base))
	}
	return append(b, byte(ends+n))
}

// appendInteger appends an integer as a number: even ones are not below 0.
func appendInteger(b []byte, n int) []byte {
	if n < 0 {
		return appendNumber(b, -2*n-1)
	}
	return appendNumber(b, 2*n)
}

// integer returns the integer that was written as a number.
func integer(n int) int {
	if n%2 == 1 {
		return -(n + 1) / 2
	}
	return n / 2
}

// cutNumber returns the number with which some bytes begin, and those behind it, if
// they begin with a number as it is written.
func cutNumber(b []byte) (n int, rest []byte, isNumber bool) {
	unit := 1
	for i, c := range b[:min(len(b), maxDigits)] {
		if isGoingOn(c) {
			n += (int(c) - goesOn) * unit
			unit *= base
			continue
		}
		last := int(c) - ends
		if !isIn(last, 0, base-1) || last == 0 && i > 0 { // no digit, or one more than needed
			return 0, nil, false
		}
		return n + last*unit, b[i+1:], true
	}
	return 0, nil, false
}

// isGoingOn reports whether a byte is a digit behind which there is another one.
func isGoingOn(c byte) bool { return isIn(int(c), goesOn, goesOn+base-1) }

// sum returns that of some bytes.
func sum(l []byte) int {
	n := 1
	for _, c := range l {
		n = (31*n + int(c)) % (1<<31 - 1)
	}
	return n
}

// appendSum appends a sum, which has the same number of digits whatever it is.
func appendSum(b []byte, n int) []byte {
	for range sumDigits - 1 {
		b = append(b, byte(goesOn+n%base))
		n /= base
	}
	return append(b, byte(ends+n))
}
