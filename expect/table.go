package expect

import (
	"slices"

	"stockade/api"
)

// Table has wants.
type Table struct {
	made  bool
	most  int // wants that may be there
	quota int // and how many of them may be one Master's
	now   int
	wants []api.Want // in the order in which they came, no two of one way
}

// New is one without wants.
func New(most, quota int) (*Table, api.Errno) {
	if !rightCap(most) || !rightCap(quota) {
		return nil, api.ErrArg
	}
	return &Table{made: true, most: most, quota: quota}, api.OK
}

func rightCap(n int) bool { return n >= 0 && n <= api.MaxCap }

// isMade tells whether a table is one that New gave.
func (t *Table) isMade() bool {
	return t != nil && t.made
}

// ofWay and ofMaster ask which wants are meant.
func ofWay(x api.Tuple) func(w api.Want) bool {
	return func(w api.Want) bool { return w.Tuple == x }
}

func ofMaster(x api.Tuple) func(w api.Want) bool {
	return func(w api.Want) bool { return w.Master == x }
}

// cut takes the wants that are meant out of the list, and answers how many they were. Whatever takes wants out does it here, so that the order of the others stays.
func (t *Table) cut(meant func(w api.Want) bool) int {
	was := len(t.wants)
	t.wants = slices.DeleteFunc(t.wants, meant)
	return was - len(t.wants)
}

// Add puts a want in.
func (t *Table) Add(w api.Want) api.Errno {
	switch {
	case !t.isMade():
		return api.ErrNil
	case !Right(w) || w.Ends <= t.now:
		return api.ErrArg
	}
	if i := slices.IndexFunc(t.wants, ofWay(w.Tuple)); i >= 0 {
		return t.putAt(i, w)
	}
	return t.putBehind(w)
}

// putAt gives a want the place of the one of its way. A Master that could put its own wants there would take others' away, so it must be the same.
func (t *Table) putAt(i int, w api.Want) api.Errno {
	if t.wants[i].Master != w.Master {
		return api.ErrMany
	}
	t.wants[i] = w
	return api.OK
}

// putBehind puts a want of a new way behind all others.
func (t *Table) putBehind(w api.Want) api.Errno {
	switch {
	case t.count(ofMaster(w.Master)) >= t.quota:
		return api.ErrMany
	case len(t.wants) >= t.most:
		return api.ErrFull
	}
	t.wants = append(t.wants, w)
	return api.OK
}

// count is how many wants are meant.
func (t *Table) count(meant func(w api.Want) bool) int {
	n := 0
	for _, w := range t.wants {
		if meant(w) {
			n++
		}
	}
	return n
}

// Take takes the want that waits for a way.
func (t *Table) Take(x api.Tuple) (api.Want, bool) {
	if !t.isMade() {
		return api.Want{}, false
	}
	i := slices.IndexFunc(t.wants, func(w api.Want) bool { return Waits(w, x) })
	if i < 0 {
		return api.Want{}, false
	}
	w := t.wants[i]
	t.cut(ofWay(w.Tuple))
	return w, true
}

// Forget takes all wants of a master out.
func (t *Table) Forget(master api.Tuple) int {
	if !t.isMade() {
		return 0
	}
	return t.cut(ofMaster(master))
}

// Tick sets the clock.
func (t *Table) Tick(now int) api.Errno {
	switch {
	case !t.isMade():
		return api.ErrNil
	case now < t.now || now > api.MaxTime:
		return api.ErrTime
	}
	t.now = now
	t.cut(func(w api.Want) bool { return w.Ends <= now })
	return api.OK
}

// All are all wants.
func (t *Table) All() []api.Want {
	if !t.isMade() {
		return nil
	}
	return slices.Clone(t.wants)
}

// Len is how many wants there are.
func (t *Table) Len() int {
	if !t.isMade() {
		return 0
	}
	return len(t.wants)
}

// Now is the clock.
func (t *Table) Now() int {
	if !t.isMade() {
		return 0
	}
	return t.now
}
