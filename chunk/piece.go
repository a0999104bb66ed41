package chunk

import (
	"cmp"
	"math"

	"stockade/api"
)

// anyZone is what a rule has for a zone, if it takes all of them.
const anyZone = -1

// greatest is the last of all points: there is none behind it.
var greatest = api.Point{A: math.MaxUint64, B: math.MaxUint64, C: math.MaxUint64}

// piece is what a rule takes of a dimension, both points counted.
type piece struct {
	first, last api.Point
}

func (x piece) holds(p api.Point) bool {
	return order(x.first, p) <= 0 && order(p, x.last) <= 0
}

// pieceOf is a rule's piece of a dimension; the rule may be, and the dimension is one.
func pieceOf(r api.Rule, dim int) piece {
	switch dim {
	case dimFrom:
		return numberPiece(r.From, anyZone)
	case dimTo:
		return numberPiece(r.To, anyZone)
	case dimSrc:
		return netPiece(r.Src)
	case dimDst:
		return netPiece(r.Dst)
	case dimProto:
		return numberPiece(r.Proto, 0)
	case dimSport:
		return portsPiece(r.Sport)
	default:
		return portsPiece(r.Dport)
	}
}

func whole() piece {
	return piece{last: greatest}
}

func numberPiece(n, every int) piece {
	if n == every {
		return whole()
	}
	return piece{first: ofNumber(n), last: ofNumber(n)}
}

func portsPiece(p api.Ports) piece {
	return piece{first: ofNumber(p.Lo), last: ofNumber(p.Hi)}
}

func netPiece(p api.Prefix) piece {
	if p == (api.Prefix{}) {
		return whole()
	}
	return piece{first: ofAddr(p.Addr), last: ofAddr(lastAddr(p))}
}

// lastAddr is a prefix's address with all bits from Bits on 1.
func lastAddr(p api.Prefix) api.Addr {
	a := p.Addr
	if a.Fam == 4 {
		a.Lo |= math.MaxUint32 >> p.Bits
		return a
	}
	a.Hi |= math.MaxUint64 >> p.Bits
	a.Lo |= math.MaxUint64 >> max(p.Bits-64, 0)
	return a
}

func ofNumber(n int) api.Point {
	return api.Point{C: uint64(n)}
}

func ofAddr(a api.Addr) api.Point {
	return api.Point{A: uint64(a.Fam), B: a.Hi, C: a.Lo}
}

func order(a, b api.Point) int {
	return cmp.Or(cmp.Compare(a.A, b.A), cmp.Compare(a.B, b.B), cmp.Compare(a.C, b.C))
}

// behind is the point behind one; each number that goes past its end carries into the one ahead.
func behind(p api.Point) api.Point {
	p.C++
	if p.C == 0 {
		p.B++
		if p.B == 0 {
			p.A++
		}
	}
	return p
}
