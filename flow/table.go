package flow

import (
	"slices"

	"stockade/api"
	"stockade/tuple"
)

// Table has flows.
type Table struct {
	made  bool
	most  int // flows that may be there
	now   int
	flows map[api.Tuple]api.Flow // by their ways: of a way and its reverse one at most stands there
}

// New is one without flows.
func New(most int) (*Table, api.Errno) {
	if most < 0 || most > api.MaxCap {
		return nil, api.ErrArg
	}
	return &Table{made: true, most: most, flows: map[api.Tuple]api.Flow{}}, api.OK
}

// isMade tells whether a table is one that New gave.
func (t *Table) isMade() bool {
	return t != nil && t.made
}

// Find is the flow of a way.
func (t *Table) Find(w api.Tuple) (api.Flow, int, bool) {
	if !t.isMade() {
		return api.Flow{}, 0, false
	}
	if f, there := t.flows[w]; there {
		return f, 0, true
	}
	if f, there := t.flows[tuple.Reverse(w)]; there {
		return f, 1, true
	}
	return api.Flow{}, 0, false
}

// Put puts a flow in. A way that is its own reverse is found as the way, so its flow is put again like any other.
func (t *Table) Put(f api.Flow) api.Errno {
	if !t.isMade() {
		return api.ErrNil
	}
	_, side, there := t.Find(f.Tuple)
	switch {
	case !Right(f) || f.Ends <= t.now:
		return api.ErrArg
	case there && side == 1:
		return api.ErrThere
	case !there && len(t.flows) >= t.most:
		return api.ErrFull
	}
	t.flows[f.Tuple] = f
	return api.OK
}

// Drop takes a flow out.
func (t *Table) Drop(w api.Tuple) bool {
	f, _, there := t.Find(w)
	if there {
		delete(t.flows, f.Tuple)
	}
	return there
}

// Tick sets the clock.
func (t *Table) Tick(now int) api.Errno {
	switch {
	case !t.isMade():
		return api.ErrNil
	case now < t.now || now > api.MaxTime:
		return api.ErrTime
	}
	t.now = now
	for w, f := range t.flows {
		if f.Ends <= now {
			delete(t.flows, w)
		}
	}
	return api.OK
}

// All are all flows. The map gives them in any order, so they are sorted.
func (t *Table) All() []api.Flow {
	if !t.isMade() {
		return nil
	}
	all := make([]api.Flow, 0, len(t.flows))
	for _, f := range t.flows {
		all = append(all, f)
	}
	slices.SortFunc(all, func(a, b api.Flow) int {
		return tuple.Order(a.Tuple, b.Tuple)
	})
	return all
}

// Len is how many flows there are.
func (t *Table) Len() int {
	if !t.isMade() {
		return 0
	}
	return len(t.flows)
}

// Now is the clock.
func (t *Table) Now() int {
	if !t.isMade() {
		return 0
	}
	return t.now
}
