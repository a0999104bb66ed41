package expect_test

import (
	"math"
	"math/rand"
	"slices"
	"testing"

	"stockade/api"
	"stockade/expect"
	"stockade/tuple"
)

type chance struct{ *rand.Rand }

func (c chance) of(n ...int) int { return n[c.Intn(len(n))] }

// way is one of few, so that many are met again, some of them wrong.
func (c chance) way() api.Tuple {
	w := rightWays()[c.Intn(3)]
	w.Sport += c.Intn(3)
	w.Dport += c.Intn(2)
	if c.Intn(60) == 0 {
		wrong := append(wrongWays(w), anyPort(w))
		w = wrong[c.Intn(len(wrong))]
	}
	return w
}

func (c chance) time(near int) int {
	if c.Intn(30) == 0 {
		return c.of(math.MinInt, -1, 0, api.MaxTime, api.MaxTime+1, math.MaxInt)
	}
	return near + c.of(0, 0, 1, 2, 10, 30, -1, c.Intn(100))
}

// want is mostly one that may be, of one of four Masters.
func (c chance) want(near int) api.Want {
	w := api.Want{Tuple: c.way(), Master: master(c.Intn(4)), Ends: c.time(near), Help: c.Intn(4)}
	if c.Intn(2) == 0 {
		w.Tuple.Sport = -1
	}
	if c.Intn(60) == 0 {
		w.Help = c.of(wrongHelps()...)
	}
	if c.Intn(60) == 0 {
		w.Master = c.way()
	}
	return w
}

// plainRight reads the chapter's words on wants.
func plainRight(w api.Want) bool {
	own := w.Tuple
	if own.Sport == -1 {
		own.Sport = 0
	}
	return tuple.Right(own) && tuple.Right(w.Master) && 0 <= w.Ends && w.Ends <= 1<<62 && 0 <= w.Help && w.Help <= 3
}

// plainWaits reads the chapter's words on what a want waits for.
func plainWaits(w api.Want, x api.Tuple) bool {
	is := w.Tuple == x || w.Tuple.Sport == -1 && w.Tuple == anyPort(x)
	return plainRight(w) && tuple.Right(x) && is
}

// plain is a table in the chapter's own words.
type plain struct {
	most, quota, now int
	wants            []api.Want
}

func (m *plain) add(w api.Want) api.Errno {
	if !plainRight(w) || w.Ends <= m.now {
		return 1
	}
	of := 0
	for i, o := range m.wants {
		if o.Tuple == w.Tuple && o.Master == w.Master {
			m.wants[i] = w
			return 0
		}
		if o.Tuple == w.Tuple {
			return 17
		}
		if o.Master == w.Master {
			of++
		}
	}
	if of == m.quota {
		return 17
	}
	if len(m.wants) == m.most {
		return 12
	}
	m.wants = append(m.wants, w)
	return 0
}

func (m *plain) take(x api.Tuple) (api.Want, bool) {
	for i, w := range m.wants {
		if plainWaits(w, x) {
			m.wants = append(slices.Clone(m.wants[:i]), m.wants[i+1:]...)
			return w, true
		}
	}
	return api.Want{}, false
}

// keep leaves the wants of which a question holds, and tells how many went.
func (m *plain) keep(stays func(w api.Want) bool) int {
	var rest []api.Want
	for _, w := range m.wants {
		if stays(w) {
			rest = append(rest, w)
		}
	}
	gone := len(m.wants) - len(rest)
	m.wants = rest
	return gone
}

func (m *plain) forget(x api.Tuple) int {
	return m.keep(func(w api.Want) bool { return w.Master != x })
}

func (m *plain) tick(now int) api.Errno {
	if now < m.now || now > 1<<62 {
		return 25
	}
	m.now = now
	m.keep(func(w api.Want) bool { return w.Ends > now })
	return 0
}

// level holds a table against the plain one, and against what follows from the promises.
func level(t *testing.T, x *expect.Table, m *plain) {
	t.Helper()
	has(t, x, m.now, m.wants...)
	if x.Len() > m.most {
		t.Fatalf("%d wants of %d", x.Len(), m.most)
	}
	of := map[api.Tuple]int{}
	ways := map[api.Tuple]int{}
	for _, w := range x.All() {
		of[w.Master]++
		ways[w.Tuple]++
		if w.Ends <= x.Now() || !expect.Right(w) || of[w.Master] > m.quota || ways[w.Tuple] > 1 {
			t.Fatalf("at %d there is %+v, one of %d of its Master", x.Now(), w, of[w.Master])
		}
	}
}

// P17.2, P17.3, P17.5, P17.6, R7: scripts by chance, against the plain reading.
func TestTableAsPlain(t *testing.T) {
	c := chance{rand.New(rand.NewSource(17))}
	met, taken, forgotten := map[api.Errno]int{}, map[bool]int{}, map[bool]int{}
	for range 4000 {
		m := &plain{most: c.of(0, 1, 2, 5, 9, greatest), quota: c.of(0, 1, 2, 4, greatest)}
		x := made(t, m.most, m.quota)
		for range 80 {
			var got, want api.Errno
			switch c.Intn(16) {
			case 0:
				now := c.time(m.now)
				if now > m.now+1000 && c.Intn(10) > 0 {
					now = m.now - 1
				}
				got, want = x.Tick(now), m.tick(now)
			case 1:
				w := master(c.Intn(5))
				is, ought := x.Forget(w), m.forget(w)
				if is != ought {
					t.Fatalf("Forget(%+v): %d, want %d", w, is, ought)
				}
				forgotten[is > 1]++
			case 2, 3, 4, 5:
				w := c.way()
				a, is := x.Take(w)
				b, ought := m.take(w)
				if a != b || is != ought {
					t.Fatalf("Take(%+v): %+v, %v, want %+v, %v", w, a, is, b, ought)
				}
				taken[is]++
			default:
				w := c.want(m.now + 20)
				got, want = x.Add(w), m.add(w)
			}
			if got != want {
				t.Fatalf("error %d, want %d", got, want)
			}
			met[got]++
			level(t, x, m)
		}
	}
	for _, e := range []api.Errno{api.OK, api.ErrArg, api.ErrMany, api.ErrFull, api.ErrTime} {
		if met[e] < 1000 {
			t.Errorf("error %d was met only %d times", e, met[e])
		}
	}
	if taken[true] < 1000 || taken[false] < 1000 || forgotten[true] < 1000 || forgotten[false] < 1000 {
		t.Error("too few to tell:", taken, forgotten)
	}
}

// P17.1: every answer of Right and Waits is the plain one.
func TestCallsAsPlain(t *testing.T) {
	c := chance{rand.New(rand.NewSource(18))}
	right, waits := map[bool]int{}, map[bool]int{}
	for range 300000 {
		w, x := c.want(20), c.way()
		if c.Intn(3) == 0 {
			x = fromPort(w.Tuple, x.Sport)
		}
		is, does := expect.Right(w), expect.Waits(w, x)
		if is != plainRight(w) || does != plainWaits(w, x) {
			t.Fatalf("Right(%+v): %v, Waits for %+v: %v", w, is, x, does)
		}
		right[is]++
		waits[does]++
	}
	for _, n := range []int{right[true], right[false], waits[true], waits[false]} {
		if n < 5000 {
			t.Error("too few to tell:", right, waits)
		}
	}
}
