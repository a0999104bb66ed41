// Package wire is layer 1: numbers in bytes, and check sums: see shared/doc/01-wire.md.
package wire

// allOnes is the greatest word, and the sum of bytes that end in their own check sum.
const allOnes = 0xffff

// U16 is the number in the two bytes of b from at on, and whether they all lie in b.
func U16(b []byte, at int) (int, bool) {
	if !lies(b, at, 2) {
		return 0, false
	}
	return int(b[at])<<8 | int(b[at+1]), true
}

// U32 is the number in the four bytes of b from at on, and whether they all lie in b.
func U32(b []byte, at int) (uint32, bool) {
	if !lies(b, at, 4) {
		return 0, false
	}
	return uint32(b[at])<<24 | uint32(b[at+1])<<16 | uint32(b[at+2])<<8 | uint32(b[at+3]), true
}

// Part are the n bytes of b from at on, and whether they all lie in b.
func Part(b []byte, at, n int) ([]byte, bool) {
	if !lies(b, at, n) {
		return nil, false
	}
	return longer(b[at:at+n], 0), true
}

// Put16 are b's bytes, and the low 16 bits of n behind them.
func Put16(b []byte, n int) []byte {
	return append(longer(b, 2), byte(n>>8), byte(n))
}

// Put32 are b's bytes, and n behind them.
func Put32(b []byte, n uint32) []byte {
	return append(longer(b, 4), byte(n>>24), byte(n>>16), byte(n>>8), byte(n))
}

// Sum is the sum of all parts' bytes, one part directly behind the other.
func Sum(parts ...[]byte) int {
	total := 0
	shift := 8 // it outlives a part: one of odd length leaves a word half full
	for _, part := range parts {
		for _, x := range part {
			total += int(x) << shift
			shift = 8 - shift
		}
		// The same bytes may be handed in as many parts: folding only at the end could leave 64 bits.
		total = fold(total)
	}
	return total
}

// Check is the check sum of all parts' bytes: 65535 less their sum.
func Check(parts ...[]byte) int {
	return allOnes - Sum(parts...)
}

// lies tells whether the n bytes from at on lie in b. It subtracts, as at+n may be more than an int holds.
func lies(b []byte, at, n int) bool {
	return at >= 0 && n >= 0 && n <= len(b)-at
}

// longer is a copy of b with room for more bytes, so that appending never writes behind the caller's b.
func longer(b []byte, more int) []byte {
	return append(make([]byte, 0, len(b)+more), b...)
}

// fold adds what is above the low 16 bits to these, until nothing is above them.
func fold(total int) int {
	for total > allOnes {
		total = total>>16 + total&allOnes
	}
	return total
}
