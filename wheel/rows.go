package wheel

import (
	"math/bits"
	"slices"
)

// A time is read as digits of 6 bits, a row a digit, the lowest one first: 11 of them hold MaxTime.
const (
	digitBits = 6
	slotCount = 1 << digitBits
	rowCount  = 11
)

// digit is a time's digit of a row.
func digit(at, row int) int {
	return at >> (row * digitBits) & (slotCount - 1)
}

// apart is the row of the highest digit in which two times are unlike; the lowest row, if they are the same.
func apart(a, b int) int {
	return (bits.Len64(uint64(a^b)|1) - 1) / digitBits
}

// slot is where a time's numbers stand: in the row in which the time and the clock are apart. So all of a row's numbers are earlier than those of the next row, and all of a slot's than those of the next slot; and while the clock moves by lower digits alone, they stay where they are. A time that the clock has reached stands at the clock, ahead of all others.
func (w *Wheel) slot(at int) *[]int {
	at = max(at, w.now)
	row := apart(w.now, at)
	return &w.rows[row][digit(at, row)]
}

// putIn puts a number that has a time into its slot.
func (w *Wheel) putIn(id int) {
	s := w.slot(w.times[id])
	*s = append(*s, id)
}

// takeOut takes a number out of its slot.
func (w *Wheel) takeOut(id int) {
	s := w.slot(w.times[id])
	at := slices.Index(*s, id)
	*s = slices.Delete(*s, at, at+1)
}

// turn sets the clock, and takes the numbers that are due out of their slots. Only in the clock's new slot may there be some that are not due yet: these go to finer rows.
func (w *Wheel) turn(to int) []int {
	passed := w.empty(to)
	w.now = to
	var due []int
	for _, id := range passed {
		if w.times[id] <= to {
			due = append(due, id)
		} else {
			w.putIn(id)
		}
	}
	return due
}

// empty takes out all numbers of the slots that the clock passes on its way to a time, and of the one that it comes to.
func (w *Wheel) empty(to int) []int {
	var out []int
	top := apart(w.now, to)
	for row := range top + 1 {
		end := slotCount
		if row == top {
			end = digit(to, top) + 1
		}
		for i := range end {
			out = append(out, w.rows[row][i]...)
			w.rows[row][i] = nil
		}
	}
	return out
}

// soonest are the numbers of the first slot that has any.
func (w *Wheel) soonest() []int {
	for row := range w.rows {
		for i := range w.rows[row] {
			if len(w.rows[row][i]) > 0 {
				return w.rows[row][i]
			}
		}
	}
	return nil
}
