package flow_test

import (
	"math"
	"math/rand"
	"slices"
	"testing"

	"stockade/api"
	"stockade/flow"
	"stockade/tcp"
	"stockade/tuple"
)

type chance struct{ *rand.Rand }

func (c chance) of(n ...int) int { return n[c.Intn(len(n))] }

// way is one of few, so that many are met again, with their reverses among them, ones that are their own, and some that may not be.
func (c chance) way() api.Tuple {
	w := rightWays()[c.Intn(6)]
	w.Sport += c.Intn(3)
	if c.Intn(8) == 0 {
		w = round(w)
	}
	if c.Intn(3) == 0 {
		w = back(w)
	}
	if c.Intn(40) == 0 {
		wrong := wrongWays(w)
		w = wrong[c.Intn(len(wrong))]
	}
	return w
}

// segment is mostly one that begins a flow of a way, or goes on with one.
func (c chance) segment(w api.Tuple) api.Seg {
	s := api.Seg{Tuple: w, Seq: uint32(c.of(99, 100, 101, 499, 500, 501)), Ack: uint32(c.of(99, 100, 101, 499, 500, 501)), Win: c.of(0, 1, 1000, 65535)}
	s.Flags = c.of(api.SYN, api.SYN, api.SYN|api.ACK, api.ACK, api.ACK, api.ACK|api.FIN, api.RST, api.RST|api.ACK, c.Intn(64))
	s.Type, s.Code = c.of(0, 8, 8, 128, 128, 129, c.Intn(256)), c.of(0, 0, 0, 0, 1)
	s.Data = make([]byte, c.of(0, 0, 0, 1, 2, 1000))
	if c.Intn(40) == 0 {
		s.Win = c.of(-1, 65536)
	}
	if c.Intn(200) == 0 {
		s.Data = make([]byte, c.of(65535, 65536))
	}
	return s
}

func (c chance) time(near int) int {
	if c.Intn(20) == 0 {
		return c.of(math.MinInt, -1, 0, latest, latest+1, api.MaxTime, api.MaxTime+1, math.MaxInt)
	}
	return near + c.of(0, 0, 1, 2, 10, 30, 60, -1, c.Intn(200))
}

// flow is mostly one that may be.
func (c chance) flow(near int) api.Flow {
	f := api.Flow{Tuple: c.way(), Ends: c.time(near), Help: c.Intn(4), Both: c.Intn(2) == 0}
	if f.Tuple.Proto == api.TCP {
		f.Conn = stream(1 + c.Intn(6))
	}
	if c.Intn(40) == 0 {
		f.Conn = stream(c.Intn(8))
	}
	if c.Intn(40) == 0 {
		f.Help = c.of(wrongHelps()...)
	}
	return f
}

// plainRight reads the chapter's words on flows.
func plainRight(f api.Flow) bool {
	stream := f.Conn == api.Conn{}
	if f.Tuple.Proto == 6 {
		stream = tcp.Right(f.Conn)
	}
	return tuple.Right(f.Tuple) && 0 <= f.Ends && f.Ends <= 1<<62 && 0 <= f.Help && f.Help <= 3 && stream
}

func plainTime(now int) bool { return 0 <= now && now <= 1<<62-3600 }

// plainLife reads the chapter's words on how long a flow is kept.
func plainLife(f api.Flow) int {
	switch {
	case f.Tuple.Proto == 6:
		return map[int]int{1: 30, 2: 30, 3: 3600, 4: 60, 5: 30, 6: 1}[f.Conn.State]
	case f.Tuple.Proto == 17 && f.Both:
		return 180
	case f.Tuple.Proto == 17:
		return 30
	}
	return 10
}

// plainEcho is what a side sends of an echo: its protocol, its Type and its Code.
func plainEcho(s api.Seg, side int) bool {
	echoes := map[[3]int]int{{1, 8, 0}: 0, {1, 0, 0}: 1, {58, 128, 0}: 0, {58, 129, 0}: 1}
	of, is := echoes[[3]int{s.Tuple.Proto, s.Type, s.Code}]
	return is && of == side
}

func plainStart(s api.Seg, now, help int) (api.Flow, api.Errno) {
	if !tuple.Right(s.Tuple) || !plainTime(now) || help < 0 || help > 3 {
		return api.Flow{}, 1
	}
	f := api.Flow{Tuple: s.Tuple, Help: help}
	switch s.Tuple.Proto {
	case 6:
		c, e := tcp.Begin(s.Flags, s.Seq, s.Win, len(s.Data))
		if e != 0 {
			return api.Flow{}, e
		}
		f.Conn = c
	case 1, 58:
		if !plainEcho(s, 0) {
			return api.Flow{}, 23
		}
	}
	f.Ends = now + plainLife(f)
	return f, 0
}

func plainGo(f api.Flow, side int, s api.Seg, now int) (api.Flow, api.Errno) {
	if !plainRight(f) || side < 0 || side > 1 || !plainTime(now) {
		return api.Flow{}, 1
	}
	if side == 0 && s.Tuple != f.Tuple || side == 1 && s.Tuple != back(f.Tuple) {
		return api.Flow{}, 23
	}
	switch f.Tuple.Proto {
	case 6:
		c, e := tcp.Step(f.Conn, side, tcp.Segment{Flags: s.Flags, Win: s.Win, Size: len(s.Data), Seq: s.Seq, Ack: s.Ack})
		if e != 0 {
			return api.Flow{}, e
		}
		f.Conn = c
	case 1, 58:
		if !plainEcho(s, side) {
			return api.Flow{}, 23
		}
	}
	if side == 1 {
		f.Both = true
	}
	f.Ends = now + plainLife(f)
	return f, 0
}

// plain is a table in the chapter's own words: a list of flows.
type plain struct {
	most, now int
	flows     []api.Flow
}

func (m *plain) place(w api.Tuple) (int, int) {
	for side, x := range []api.Tuple{w, back(w)} {
		if i := slices.IndexFunc(m.flows, func(f api.Flow) bool { return f.Tuple == x }); i >= 0 {
			return i, side
		}
	}
	return -1, 0
}

func (m *plain) put(f api.Flow) api.Errno {
	i, side := m.place(f.Tuple)
	switch {
	case !plainRight(f) || f.Ends <= m.now:
		return 1
	case i >= 0 && side == 0:
		m.flows[i] = f
		return 0
	case i >= 0:
		return 15
	case len(m.flows) == m.most:
		return 12
	}
	m.flows = append(m.flows, f)
	return 0
}

func (m *plain) drop(w api.Tuple) bool {
	i, _ := m.place(w)
	if i >= 0 {
		m.flows = slices.Delete(m.flows, i, i+1)
	}
	return i >= 0
}

func (m *plain) tick(now int) api.Errno {
	if now < m.now || now > 1<<62 {
		return 25
	}
	m.now = now
	m.flows = slices.DeleteFunc(m.flows, func(f api.Flow) bool { return f.Ends <= now })
	return 0
}

// level holds a table against the plain one, and against what follows from the promises.
func level(t *testing.T, x *flow.Table, m *plain) {
	t.Helper()
	has(t, x, m.now, m.flows...)
	if x.Len() > m.most {
		t.Fatalf("%d flows of %d", x.Len(), m.most)
	}
	for _, f := range x.All() {
		if f.Ends <= x.Now() || !flow.Right(f) {
			t.Fatalf("at %d there is %+v", x.Now(), f)
		}
	}
}

// P16.3, P16.4, P16.5, P16.6, R7: scripts by chance, against the plain reading.
func TestTableAsPlain(t *testing.T) {
	c := chance{rand.New(rand.NewSource(16))}
	met := map[api.Errno]int{}
	drops := map[bool]int{}
	for range 3000 {
		m := &plain{most: c.of(0, 1, 2, 5, 20, most)}
		x := made(t, m.most)
		for range 80 {
			var got, want api.Errno
			switch c.Intn(12) {
			case 0:
				now := c.time(m.now)
				if now > m.now+1000 && c.Intn(10) > 0 {
					now = m.now - 1
				}
				got, want = x.Tick(now), m.tick(now)
			case 1:
				w := c.way()
				is, ought := x.Drop(w), m.drop(w)
				if is != ought {
					t.Fatalf("Drop(%+v): %v", w, is)
				}
				drops[is]++
			default:
				f := c.flow(m.now + 20)
				got, want = x.Put(f), m.put(f)
			}
			if got != want {
				t.Fatalf("error %d, want %d", got, want)
			}
			met[got]++
			w := c.way()
			if i, _ := m.place(w); i < 0 {
				lost(t, x, w, back(w))
			}
			level(t, x, m)
		}
	}
	for _, e := range []api.Errno{api.OK, api.ErrArg, api.ErrThere, api.ErrFull, api.ErrTime} {
		if met[e] < 1000 {
			t.Errorf("error %d was met only %d times", e, met[e])
		}
	}
	if drops[true] < 1000 || drops[false] < 1000 {
		t.Error("too few to tell:", drops)
	}
}

// P16.1, P16.2, P16.7: every answer of Start and Go is the plain one, and may be.
func TestCallsAsPlain(t *testing.T) {
	c := chance{rand.New(rand.NewSource(17))}
	type kind struct {
		call  string
		proto int
		e     api.Errno
	}
	met := map[kind]int{}
	for range 300000 {
		s, now, help := c.segment(c.way()), c.time(1000), c.of(0, 1, 2, 3, 3, 0, 1, 2, 3, -1, 4)
		got, e := flow.Start(s, now, help)
		want, f := plainStart(s, now, help)
		if got != want || e != f || e == api.OK && !flow.Right(got) {
			t.Fatalf("Start(%+v, %d, %d): %+v, %d, want %+v, %d", s, now, help, got, e, want, f)
		}
		met[kind{"Start", s.Tuple.Proto, e}]++
		x, side := c.flow(1000), c.Intn(2)
		s.Tuple = x.Tuple
		if side == 1 {
			s.Tuple = back(x.Tuple)
		}
		if c.Intn(10) == 0 {
			s.Tuple = c.way()
		}
		if c.Intn(60) == 0 {
			side = c.of(-1, 2, 1<<40)
		}
		got, e = flow.Go(x, side, s, now)
		want, f = plainGo(x, side, s, now)
		if got != want || e != f || e == api.OK && !flow.Right(got) || flow.Right(x) != plainRight(x) {
			t.Fatalf("Go(%+v, %d, %+v, %d): %+v, %d, want %+v, %d", x, side, s, now, got, e, want, f)
		}
		met[kind{"Go", x.Tuple.Proto, e}]++
	}
	for _, call := range []string{"Start", "Go"} {
		for _, proto := range []int{api.TCP, api.UDP, api.ICMP, api.ICMP6} {
			for _, e := range []api.Errno{api.OK, api.ErrArg, api.ErrState} {
				n := met[kind{call, proto, e}]
				none := call == "Start" && proto == api.UDP && e == api.ErrState
				if none != (n == 0) || !none && n < 500 {
					t.Error("too few to tell, or too many:", call, proto, e, n)
				}
			}
		}
	}
}

// P16.5, P16.6, P16.7: talks by chance, as segments come to a table: each is found, goes on, or begins; what is made is put, as long as there is room.
func TestTalks(t *testing.T) {
	c := chance{rand.New(rand.NewSource(18))}
	went, began, full := [2]int{}, 0, 0
	for range 1500 {
		m := &plain{most: c.of(1, 3, 8, most)}
		x := made(t, m.most)
		for range 100 {
			tick(t, x, m.now+c.of(0, 0, 1, 5, 12))
			m.tick(x.Now())
			s := c.segment(c.way())
			f, side, there := x.Find(s.Tuple)
			e := api.ErrState
			if there {
				f, e = flow.Go(f, side, s, x.Now())
			} else {
				f, e = flow.Start(s, x.Now(), c.Intn(4))
			}
			if e != api.OK {
				continue
			}
			if !flow.Right(f) || f.Ends <= x.Now() {
				t.Fatalf("at %d %+v was made", x.Now(), f)
			}
			got := x.Put(f)
			if want := m.put(f); got != want || there && got != api.OK {
				t.Fatalf("Put(%+v): %d, want %d", f, got, want)
			}
			level(t, x, m)
			switch {
			case got == api.ErrFull:
				full++
			case there:
				went[side]++
			default:
				began++
			}
		}
	}
	if went[0] < 1000 || went[1] < 1000 || began < 1000 || full < 1000 {
		t.Error("too few to tell:", went, began, full)
	}
}
