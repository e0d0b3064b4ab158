package mosaic_test

import (
	"math/big"
	"slices"

	"radome/mosaic"
)

// piece is a part of a snapshot: some bytes, or a number.
type piece struct {
	number *big.Int
	bytes  []byte
	groups int // how many more the number has than it needs
}

func number(n int) piece { return piece{number: big.NewInt(int64(n))} }

// plus returns a number that is greater by 2 to the power of some bits.
func (x piece) plus(bits uint) piece {
	return piece{number: new(big.Int).Add(x.number, new(big.Int).Lsh(big.NewInt(1), bits))}
}

// padded returns a number with more groups than it needs.
func (x piece) padded(groups int) piece { return piece{number: x.number, groups: groups} }

// written returns a piece as the chapter says.
func (x piece) written() []byte {
	if x.number == nil {
		return x.bytes
	}
	var groups []byte
	rest, size := new(big.Int).Set(x.number), big.NewInt(128)
	for rest.Sign() > 0 {
		digit := new(big.Int)
		rest.DivMod(rest, size, digit)
		groups = append(groups, byte(digit.Int64()))
	}
	if len(groups) == 0 {
		groups = []byte{0}
	}
	groups = append(groups, make([]byte, x.groups)...)
	for i := range groups[:len(groups)-1] {
		groups[i] += 128
	}
	return groups
}

// piecesOf returns those of a snapshot with a horizon and some messages, in any
// order.
func piecesOf(horizon int, messages ...mosaic.Message) []piece {
	l := []piece{{bytes: []byte("RDM1")}, number(horizon), number(len(messages))}
	for _, m := range messages {
		l = append(l, piecesOfMessage(m)...)
	}
	return l
}

func piecesOfMessage(m mosaic.Message) []piece {
	l := []piece{number(len(m.Key.Name)), {bytes: []byte(m.Key.Name)}, number(m.Key.Tilt), number(m.Key.Time)}
	for _, v := range m.Vals {
		l = append(l, number(v.Lo), number(v.Hi-v.Lo))
	}
	return l
}

// changed returns pieces of which one is another one.
func changed(l []piece, at int, x piece) []piece {
	l = slices.Clone(l)
	l[at] = x
	return l
}

// sealed returns the bytes of pieces, with the check behind them.
func sealed(l []piece) []byte {
	var b []byte
	for _, x := range l {
		b = append(b, x.written()...)
	}
	return checked(b)
}

// checked returns bytes with their check behind them.
func checked(b []byte) []byte {
	c := 1
	for _, x := range b {
		c = (31*c + int(x) + 1) % 4294967296
	}
	return append(slices.Clone(b), byte(c/16777216), byte(c/65536%256), byte(c/256%256), byte(c%256))
}
