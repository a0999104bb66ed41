package rfc

import "math/bits"

// set has a bit for each rule's place: a rule list has 64 at most, and so sets are held against one another as numbers.
type set uint64

func setsOf(lists [][]int) []set {
	sets := make([]set, len(lists))
	for i, list := range lists {
		for _, place := range list {
			sets[i] |= 1 << place
		}
	}
	return sets
}

func lists(sets []set) [][]int {
	out := make([][]int, len(sets))
	for i, s := range sets {
		out[i] = s.places()
	}
	return out
}

// places are those of a set's rules, rising.
func (s set) places() []int {
	var list []int
	for ; s != 0; s &= s - 1 {
		list = append(list, s.least())
	}
	return list
}

// least is the place of a set's first rule, or -1.
func (s set) least() int {
	if s == 0 {
		return -1
	}
	return bits.TrailingZeros64(uint64(s))
}
