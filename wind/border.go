package wind

// border is the straight line of the winds (u, v) with u x + v y = most; those
// with less are within it.
type border struct{ x, y, most int }

// corner is the wind (u + p / w, v + q / w) in which two borders meet. The
// fractions p / w and q / w are from 0 to less than 1, and so all numbers that
// follow from a corner are small enough.
type corner struct{ u, v, p, q, w int }

// bordersOf returns the borders between which the winds are that agree with a
// sight.
func bordersOf(x Sight) [2]border {
	return [2]border{
		{x.X, x.Y, x.Speed.Hi * x.L},
		{-x.X, -x.Y, -x.Speed.Lo * x.L},
	}
}

// meeting returns where two borders meet, which are not parallel.
func (b border) meeting(other border) corner {
	w := b.x*other.y - b.y*other.x
	u := b.most*other.y - other.most*b.y
	v := b.x*other.most - other.x*b.most
	if w < 0 {
		w, u, v = -w, -u, -v
	}
	c := corner{u: down(u, w), v: down(v, w), w: w}
	c.p, c.q = u-c.u*w, v-c.v*w
	return c
}

// excess is positive if a corner is beyond a border, 0 if it is on it, and
// negative if it is within it.
func (b border) excess(c corner) int {
	// The parts behind the point make up less than twice the greatest length:
	// what is farther away than this can count as less far.
	const far = 2 * MaxLength
	whole := b.x*c.u + b.y*c.v - b.most
	return max(-far, min(far, whole))*c.w + b.x*c.p + b.y*c.q
}

// along returns how fast the wind of a corner goes along a direction, rounded
// down, and rounded up.
func (c corner) along(x, y, length int) (lo, hi int) {
	// A quotient that is rounded can be divided further by a whole number: the
	// result is that of both divisions at once.
	whole, part := c.u*x+c.v*y, c.p*x+c.q*y
	return down(whole+down(part, c.w), length), up(whole+up(part, c.w), length)
}

// down returns a quotient rounded down, where / rounds to 0.
func down(a, b int) int {
	q := a / b
	if a%b < 0 {
		q--
	}
	return q
}

// up returns a quotient rounded up.
func up(a, b int) int { return -down(-a, b) }
