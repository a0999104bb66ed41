package wheel_test

import (
	"math/rand"
	"slices"
	"testing"

	"stockade/api"
	"stockade/wheel"
)

// plain is a wheel in the chapter's own words: pairs of a number and its time.
type plain struct {
	now   int
	pairs [][2]int
}

func (m *plain) find(id int) int {
	return slices.IndexFunc(m.pairs, func(p [2]int) bool { return p[0] == id })
}

func (m *plain) set(id, at int) api.Errno {
	i := m.find(id)
	switch {
	case at < 0 || at > 1<<62:
		return api.ErrTime
	case i < 0 && len(m.pairs) >= most:
		return api.ErrFull
	case i < 0:
		m.pairs = append(m.pairs, [2]int{id, at})
	default:
		m.pairs[i][1] = at
	}
	return api.OK
}

func (m *plain) drop(id int) bool {
	i := m.find(id)
	if i < 0 {
		return false
	}
	m.pairs = slices.Delete(m.pairs, i, i+1)
	return true
}

// tick picks the first of those that are due till there are none.
func (m *plain) tick(to int) ([]int, api.Errno) {
	if to < m.now || to > 1<<62 {
		return nil, api.ErrTime
	}
	m.now = to
	var told []int
	for {
		first := -1
		for i, p := range m.pairs {
			if p[1] <= to && (first < 0 || p[1] < m.pairs[first][1] || p[1] == m.pairs[first][1] && p[0] < m.pairs[first][0]) {
				first = i
			}
		}
		if first < 0 {
			return told, api.OK
		}
		told = append(told, m.pairs[first][0])
		m.pairs = slices.Delete(m.pairs, first, first+1)
	}
}

// level asks a wheel for all that the plain one has.
func level(t *testing.T, w *wheel.Wheel, m *plain) {
	t.Helper()
	var times []int
	for _, p := range m.pairs {
		timed(t, w, p[0], p[1], true)
		times = append(times, p[1])
	}
	has(t, w, m.now, times...)
}

// both asks a wheel and the plain one the same, and holds the answers against one another.
func both(t *testing.T, w *wheel.Wheel, m *plain, kind, id, at int) api.Errno {
	t.Helper()
	var e, want api.Errno
	switch kind {
	case 0:
		got, told := []int(nil), []int(nil)
		got, e = w.Tick(at)
		told, want = m.tick(at)
		if !slices.Equal(got, told) {
			t.Fatalf("Tick(%d): %v, want %v", at, got, told)
		}
		scribble(got)
	case 1:
		if got := w.Drop(id); got != m.drop(id) {
			t.Fatalf("Drop(%d): %v", id, got)
		}
	default:
		e, want = w.Set(id, at), m.set(id, at)
	}
	if e != want {
		t.Fatalf("kind %d, number %d, time %d: %v, want %v", kind, id, at, e, want)
	}
	return e
}

// scribble writes over a list, and over the room behind its end.
func scribble(list []int) {
	list = list[:cap(list)]
	for i := range list {
		list[i] = -77
	}
}

// near is a time by chance, at a distance of a chosen size from another one, at times on a bound of a row.
func near(r *rand.Rand, now, size int) int {
	at := now + r.Intn(1<<r.Intn(size+1)+1)
	switch r.Intn(8) {
	case 0:
		at = now - r.Intn(now+1)
	case 1:
		row := 6 * r.Intn(11)
		at = at >> row << row
	case 2:
		row := 6 * r.Intn(11)
		at |= 1<<row - 1
	}
	return at
}

// P7.1, P7.2, R4, R7: scripts by chance, against the plain reading, with clocks and times of all sizes.
func TestAny(t *testing.T) {
	r := rand.New(rand.NewSource(7))
	met := map[api.Errno]int{}
	for range 4000 {
		size := r.Intn(62)
		m := &plain{now: min(r.Intn(1<<r.Intn(63)), api.MaxTime)}
		w := made(t, m.now)
		for range 60 {
			met[both(t, w, m, r.Intn(5), r.Intn(20)-10, near(r, m.now, size))]++
			level(t, w, m)
		}
	}
	for _, e := range []api.Errno{api.OK, api.ErrTime} {
		if met[e] < 1000 {
			t.Errorf("%v was met only %d times", e, met[e])
		}
	}
}

// The same with wheels that are full, or nearly so.
func TestAnyFull(t *testing.T) {
	r := rand.New(rand.NewSource(77))
	met := map[api.Errno]int{}
	for _, size := range []int{3, 9, 14, 30, 61} {
		m := &plain{now: r.Intn(1 << 20)}
		w := made(t, m.now)
		for i := range 4000 {
			kind := 2
			if i > 1500 {
				kind = r.Intn(40)
			}
			if kind == 0 && r.Intn(4) > 0 {
				kind = 1
			}
			id, at := r.Intn(3000), near(r, m.now, size)
			if kind == 0 {
				at = m.now + r.Intn(1+1<<max(size-8, 0))
			}
			met[both(t, w, m, kind, id, at)]++
			if i%50 == 0 {
				level(t, w, m)
			}
		}
		level(t, w, m)
	}
	if met[api.ErrFull] < 100 || met[api.OK] < 10000 {
		t.Error(met)
	}
}

// script sets the same numbers in two wheels by chance.
func script(t *testing.T, r *rand.Rand, now, size int) (*wheel.Wheel, *wheel.Wheel, map[int]int) {
	t.Helper()
	a, b, times := made(t, now), made(t, now), map[int]int{}
	for range 100 {
		id, at := r.Intn(60), min(near(r, now, size), api.MaxTime)
		set(t, a, id, at)
		set(t, b, id, at)
		times[id] = at
	}
	for range 10 {
		id := r.Intn(60)
		if _, there := times[id]; a.Drop(id) != there || b.Drop(id) != there {
			t.Fatalf("Drop(%d)", id)
		}
		delete(times, id)
	}
	return a, b, times
}

// P7.4, P7.5: many small Ticks tell what a great one tells, each number once, in the first Tick that reaches its time.
func TestSmallTicks(t *testing.T) {
	r := rand.New(rand.NewSource(75))
	for range 1000 {
		now, size := r.Intn(1<<r.Intn(62)), r.Intn(61)
		a, b, times := script(t, r, now, size)
		to := min(now+1<<size, api.MaxTime)
		great, e := a.Tick(to)
		if e != api.OK {
			t.Fatal(e)
		}
		var small []int
		for clock := now; clock < to; {
			step := min(near(r, clock, size), to)
			if step < clock {
				step = clock
			}
			told, e := b.Tick(step)
			if e != api.OK {
				t.Fatal(e)
			}
			for _, id := range told {
				if at, there := times[id]; !there || at > step || at <= clock && clock != now {
					t.Fatalf("%d was told from %d to %d; its time is %d, %v", id, clock, step, at, there)
				}
				delete(times, id)
			}
			small, clock = append(small, told...), step
		}
		if !slices.Equal(great, small) || a.Len() != b.Len() || len(times) != a.Len() {
			t.Fatalf("from %d to %d: %v, want %v", now, to, small, great)
		}
		for id, at := range times {
			timed(t, a, id, at, true)
			timed(t, b, id, at, true)
		}
	}
}

// P7.5: a Tick a unit of time, over the bounds of the first three rows, from unlike clocks.
func TestEachTick(t *testing.T) {
	for _, now := range []int{0, 63, 64, 4000, 64*64*64 - 5000, api.MaxTime - 20000} {
		a, b := made(t, now), made(t, now)
		for i := range most {
			at := now + (i*i)%10000
			set(t, a, i, at)
			set(t, b, i, at)
		}
		great, _ := a.Tick(now + 10000)
		var small []int
		for clock := now; clock <= now+10000; clock++ {
			told, e := b.Tick(clock)
			if e != api.OK {
				t.Fatal(e)
			}
			for _, id := range told {
				if now+(id*id)%10000 != clock {
					t.Fatalf("%d was told at %d", id, clock)
				}
			}
			small = append(small, told...)
		}
		if len(great) != most || !slices.Equal(great, small) {
			t.Fatalf("from %d: %v, want %v", now, small, great)
		}
	}
}

// P7.6: wheels turn nothing of one another's.
func TestTwoWheels(t *testing.T) {
	r := rand.New(rand.NewSource(76))
	for range 300 {
		a, b := made(t, 100), made(t, 200)
		ma, mb := &plain{now: 100}, &plain{now: 200}
		for range 80 {
			kind, id := r.Intn(5), r.Intn(12)
			if r.Intn(2) == 0 {
				both(t, a, ma, kind, id, near(r, ma.now, 14))
			} else {
				both(t, b, mb, kind, id, near(r, mb.now, 14))
			}
			level(t, a, ma)
			level(t, b, mb)
		}
	}
}

// R4: an answer that is written over turns nothing: neither the wheel, nor another answer.
func TestShares(t *testing.T) {
	for _, at := range []int{0, 64, 65, 100, 5000, 1 << 50} {
		w := made(t, 64)
		for id := range 40 {
			set(t, w, id, at)
			set(t, w, 100+id, at+1)
			set(t, w, 200+id, at+70)
		}
		first, _ := w.Tick(max(at, 64))
		kept := slices.Clone(first)
		second, _ := w.Tick(max(at, 64) + 1)
		if len(first)+len(second) != 80 {
			t.Fatal(first, second)
		}
		scribble(second)
		if !slices.Equal(first, kept) {
			t.Fatal("two answers share room")
		}
		scribble(first)
		for id := range 40 {
			timed(t, w, 200+id, at+70, true)
			timed(t, w, id, 0, false)
			set(t, w, id, at+71)
		}
		third, e := w.Tick(at + 71)
		if e != api.OK || len(third) != 80 {
			t.Fatal(third, e)
		}
		for i, id := range third {
			if id != i+200 && i < 40 || id != i-40 && i >= 40 {
				t.Fatal(third)
			}
		}
	}
}

// R4: what a Tick answered is not turned by what is set later.
func TestSharesLater(t *testing.T) {
	w := made(t, 0)
	for id := range 10 {
		set(t, w, id, 3)
	}
	told, _ := w.Tick(3)
	for id := range 500 {
		set(t, w, -id, 3+id%5)
	}
	w.Tick(6)
	if !slices.Equal(told, []int{0, 1, 2, 3, 4, 5, 6, 7, 8, 9}) {
		t.Fatal(told)
	}
}
