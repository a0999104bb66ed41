package look

import (
	"slices"

	"stockade/api"
	"stockade/rfc"
)

// Holder has tables.
type Holder struct {
	made   bool
	tables api.Tables // which may be, and are the holder's own: they are never written into
	turns  int
}

// New is one with the tables of no rules.
func New() *Holder {
	t, _ := rfc.Compile(nil, api.MaxCells)
	return &Holder{made: true, tables: t}
}

// isMade tells whether a holder is one that New gave.
func (h *Holder) isMade() bool {
	return h != nil && h.made
}

// Swap gives a holder other tables.
func (h *Holder) Swap(t api.Tables) api.Errno {
	switch {
	case !h.isMade():
		return api.ErrNil
	case !Check(t):
		return api.ErrArg
	}
	h.tables = copyTables(t)
	h.turns++
	return api.OK
}

func copyTables(t api.Tables) api.Tables {
	own := api.Tables{First: slices.Clone(t.First)}
	for _, c := range t.Dims {
		own.Dims = append(own.Dims, api.Chunk{Starts: slices.Clone(c.Starts), Class: slices.Clone(c.Class), Sets: copySets(c.Sets)})
	}
	for _, x := range t.Crosses {
		own.Crosses = append(own.Crosses, api.Cross{Width: x.Width, Cells: slices.Clone(x.Cells), Sets: copySets(x.Sets)})
	}
	return own
}

func copySets(sets [][]int) [][]int {
	own := make([][]int, len(sets))
	for i, s := range sets {
		own[i] = slices.Clone(s)
	}
	return own
}

// Find looks a key up in a holder's tables, which were checked when they came.
func (h *Holder) Find(k api.Key) (int, api.Errno) {
	if !h.isMade() {
		return 0, api.ErrNil
	}
	return find(h.tables, k)
}

// Turns is how often a holder's tables were turned.
func (h *Holder) Turns() int {
	if !h.isMade() {
		return 0
	}
	return h.turns
}
