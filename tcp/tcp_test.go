package tcp_test

import (
	"math"
	"testing"

	"stockade/api"
	"stockade/tcp"
)

// noflags are the flags that do not count, and numbers beyond all flags.
const noflags = api.PSH | api.URG | 64 | 1<<20

// bases are numbers beside those at which something turns.
func bases() []uint32 {
	return []uint32{
		0, 1, 2, 65534, 65535, 65536, 65537,
		1<<31 - 65536, 1<<31 - 1, 1 << 31, 1<<31 + 1, 1<<31 + 65535,
		1<<32 - 65536, 1<<32 - 65535, 1<<32 - 2, 1<<32 - 1, 0xdeadbeef,
	}
}

// few are the bases for tests that go over pairs of them and more.
func few() []uint32 { return []uint32{0, 65535, 1<<31 - 1, 1 << 31, 1<<32 - 1} }

// sizes are windows and sizes, and whether they may be.
func sizes() map[int]bool {
	return map[int]bool{
		math.MinInt: false, math.MinInt32: false, -65536: false, -1: false,
		0: true, 1: true, 1000: true, 65534: true, 65535: true,
		65536: false, 65537: false, 1 << 32: false, 1<<32 + 5: false, math.MaxInt: false,
	}
}

// stream is a stream of a state, of which a and b come next, and of which side 0 may send 2000 and side 1 1000.
func stream(state int, a, b uint32) api.Conn {
	c := api.Conn{State: state, Next: [2]uint32{a, b}, Edge: [2]uint32{a + 2000, b + 1000}, Known: [2]bool{true, true}}
	switch state {
	case api.StSyn:
		c.Next[1], c.Edge, c.Known[1] = 0, [2]uint32{a, 1000}, false
	case api.StFin:
		c.Ended[0] = true
	case api.StBoth:
		c.Ended = [2]bool{true, true}
	}
	return c
}

type C = *api.Conn

func turned(c api.Conn, turn func(c C)) api.Conn {
	turn(&c)
	return c
}

func wantStep(t testing.TB, c api.Conn, side int, g tcp.Segment, want api.Conn) {
	t.Helper()
	if got, e := tcp.Step(c, side, g); got != want || e != api.OK {
		t.Errorf("Step(%+v, %d, %+v): %+v, %d, want %+v", c, side, g, got, e, want)
	}
}

func wantRefused(t testing.TB, c api.Conn, side int, g tcp.Segment, want api.Errno) {
	t.Helper()
	if got, e := tcp.Step(c, side, g); got != (api.Conn{}) || e != want {
		t.Errorf("Step(%+v, %d, %+v): %+v, %d, want error %d", c, side, g, got, e, want)
	}
}

// wantTaken asks for want, if the segment is to be taken, and for ErrState else.
func wantTaken(t testing.TB, c api.Conn, side int, g tcp.Segment, taken bool, want api.Conn) {
	t.Helper()
	if taken {
		wantStep(t, c, side, g, want)
	} else {
		wantRefused(t, c, side, g, api.ErrState)
	}
}

// P15.1: a SYN alone begins a stream, whatever its number.
func TestBegin(t *testing.T) {
	for _, seq := range bases() {
		for _, win := range []int{0, 1, 1000, 65534, 65535} {
			want := api.Conn{State: 1, Next: [2]uint32{seq + 1, 0}, Edge: [2]uint32{seq + 1, uint32(win)}, Known: [2]bool{true, false}}
			for _, more := range []int{0, api.PSH, api.URG, 64, 128, noflags, math.MinInt} {
				if got, e := tcp.Begin(api.SYN|more, seq, win, 0); got != want || e != api.OK {
					t.Errorf("Begin(SYN and %d, %d, %d, 0): %+v, %d, want %+v", more, seq, win, got, e, want)
				}
			}
			if !tcp.Right(want) {
				t.Errorf("%+v may not be", want)
			}
		}
	}
}

func wantNoBegin(t testing.TB, flags int, win, size int, want api.Errno) {
	t.Helper()
	for _, seq := range few() {
		if got, e := tcp.Begin(flags, seq, win, size); got != (api.Conn{}) || e != want {
			t.Errorf("Begin(%d, %d, %d, %d): %+v, %d, want error %d", flags, seq, win, size, got, e, want)
		}
	}
}

// P15.1: other flags that count, none, and bytes begin none.
func TestBeginOther(t *testing.T) {
	for flags := -512; flags < 512; flags++ {
		if flags&(api.SYN|api.ACK|api.FIN|api.RST) != api.SYN {
			wantNoBegin(t, flags, 1000, 0, api.ErrState)
			wantNoBegin(t, flags, 0, 65535, api.ErrState)
		}
		for _, size := range []int{1, 2, 1000, 65535} {
			wantNoBegin(t, flags, 1000, size, api.ErrState)
		}
	}
	for _, flags := range []int{math.MaxInt, math.MinInt, 1 << 32, 2 << 32} {
		wantNoBegin(t, flags, 1000, 0, api.ErrState)
	}
}

// P15.1: windows and sizes that may not be are told of ahead of flags and bytes.
func TestBeginSizes(t *testing.T) {
	for n, may := range sizes() {
		for _, flags := range []int{api.SYN, api.SYN | api.PSH, 0, api.ACK, api.SYN | api.ACK, -1} {
			if !may {
				wantNoBegin(t, flags, n, 0, api.ErrArg)
				wantNoBegin(t, flags, n, 1, api.ErrArg)
				wantNoBegin(t, flags, 0, n, api.ErrArg)
				wantNoBegin(t, flags, n, n, api.ErrArg)
			} else if n != 0 {
				wantNoBegin(t, flags, 0, n, api.ErrState)
			}
		}
	}
}

// mayBe are the sides that may be known, and those that may have ended, of each state.
func mayBe(state int) (known, ended [][2]bool) {
	none, first, second, both := [2]bool{}, [2]bool{true, false}, [2]bool{false, true}, [2]bool{true, true}
	switch state {
	case 1:
		return [][2]bool{first}, [][2]bool{none}
	case 2, 3:
		return [][2]bool{both}, [][2]bool{none}
	case 4:
		return [][2]bool{both}, [][2]bool{first, second}
	case 5:
		return [][2]bool{both}, [][2]bool{both}
	case 6:
		return [][2]bool{first, both}, [][2]bool{none, first, second, both}
	}
	return nil, nil
}

// kinds are all streams but for their numbers, and whether they may be.
func kinds(each func(c api.Conn, right bool)) {
	in := func(p [2]bool, some [][2]bool) bool {
		for _, x := range some {
			if x == p {
				return true
			}
		}
		return false
	}
	for _, state := range []int{math.MinInt, -6, -3, -1, 0, 1, 2, 3, 4, 5, 6, 7, 8, 1 << 32, 1<<32 + 3, math.MaxInt} {
		known, ended := mayBe(state)
		for n := range 16 {
			c := api.Conn{State: state, Known: [2]bool{n&1 != 0, n&2 != 0}, Ended: [2]bool{n&4 != 0, n&8 != 0}}
			each(c, in(c.Known, known) && in(c.Ended, ended))
		}
	}
}

// P15.2, P15.4: which streams may be, and how long they are kept; their numbers do not count.
func TestRightAndLife(t *testing.T) {
	life := map[int]int{1: 30, 2: 30, 3: 3600, 4: 60, 5: 30, 6: 1}
	rights := 0
	kinds(func(c api.Conn, right bool) {
		want := 0
		if right {
			want = life[c.State]
			rights++
		}
		for _, a := range few() {
			for _, b := range few() {
				for _, c.Next = range [][2]uint32{{0, 0}, {a, b}, {b, 0}} {
					for _, c.Edge = range [][2]uint32{{0, 0}, {a, b}, {b, a}} {
						if got := tcp.Right(c); got != right {
							t.Errorf("Right(%+v): %v", c, got)
						}
						if got := tcp.Life(c); got != want {
							t.Errorf("Life(%+v): %d, want %d", c, got, want)
						}
					}
				}
			}
		}
	})
	if rights != 14 {
		t.Error("streams that may be:", rights)
	}
}

// P15.3: a stream that may not be is told of ahead of all that a segment is, also of one that would be taken.
func TestStepOfNone(t *testing.T) {
	kinds(func(c api.Conn, right bool) {
		if right {
			return
		}
		c.Next, c.Edge = [2]uint32{100, 500}, [2]uint32{2100, 1500}
		for side := range 2 {
			for flags := range 64 {
				wantRefused(t, c, side, tcp.Segment{Flags: flags, Win: 10, Seq: c.Next[side], Ack: c.Next[1-side]}, api.ErrArg)
			}
		}
	})
}

// P15.3: a side, a window or a size that may not be, also of a segment that no stream takes.
func TestStepArguments(t *testing.T) {
	for state := 1; state <= 6; state++ {
		c := stream(state, 100, 500)
		for _, flags := range []int{0, api.ACK, api.RST, api.SYN, api.SYN | api.ACK, api.FIN | api.ACK, -1} {
			g := tcp.Segment{Flags: flags, Win: 10, Seq: 100, Ack: 500}
			for _, side := range []int{-1, 2, -2, 3, math.MinInt, math.MaxInt, 1 << 32, 1<<32 + 1} {
				wantRefused(t, c, side, g, api.ErrArg)
			}
			for n, may := range sizes() {
				if may {
					continue
				}
				for side := range 2 {
					wantRefused(t, c, side, tcp.Segment{Flags: flags, Win: n, Seq: 100, Ack: 500}, api.ErrArg)
					wantRefused(t, c, side, tcp.Segment{Flags: flags, Size: n, Seq: 100, Ack: 500}, api.ErrArg)
				}
			}
		}
	}
}

// P15.3: windows and sizes that may be, to the greatest.
func TestStepSizes(t *testing.T) {
	for n, may := range sizes() {
		if !may {
			continue
		}
		for side := range 2 {
			c := stream(api.StOpen, 100, 500)
			c.Edge = [2]uint32{100 + 65535, 500 + 65535}
			want := c
			want.Next[side] += uint32(n)
			wantStep(t, c, side, tcp.Segment{Flags: api.ACK, Size: n, Seq: c.Next[side], Ack: c.Next[1-side]}, want)
			c.Edge = c.Next
			want = c
			want.Edge[1-side] += uint32(n)
			wantStep(t, c, side, tcp.Segment{Flags: api.ACK, Win: n, Seq: c.Next[side], Ack: c.Next[1-side]}, want)
		}
	}
}

// The chapter's example, each step of it.
func TestExample(t *testing.T) {
	c, e := tcp.Begin(api.SYN, 100, 1000, 0)
	if want := (api.Conn{State: api.StSyn, Next: [2]uint32{101, 0}, Edge: [2]uint32{101, 1000}, Known: [2]bool{true, false}}); c != want || e != api.OK {
		t.Fatalf("Begin: %+v, %d", c, e)
	}
	ack := api.Conn{State: api.StAck, Next: [2]uint32{101, 501}, Edge: [2]uint32{2101, 1501}, Known: [2]bool{true, true}}
	wantStep(t, c, 1, tcp.Segment{Flags: api.SYN | api.ACK, Seq: 500, Ack: 101, Win: 2000}, ack)
	open := turned(ack, func(c C) { c.State = api.StOpen })
	wantStep(t, ack, 0, tcp.Segment{Flags: api.ACK, Seq: 101, Ack: 501}, open)
	wantStep(t, ack, 0, tcp.Segment{Flags: api.ACK, Seq: 101, Ack: 501, Win: 1000}, open)
	wantStep(t, ack, 0, tcp.Segment{Flags: api.ACK, Seq: 101, Ack: 501, Win: 1001}, turned(open, func(c C) { c.Edge[1] = 1502 }))
}

// P15.3: flags that do not count turn nothing.
func TestOtherFlags(t *testing.T) {
	for state := 1; state <= 6; state++ {
		c := stream(state, 100, 500)
		for side := range 2 {
			for flags := range 32 {
				if flags&api.PSH != 0 {
					continue
				}
				for _, seq := range []uint32{c.Next[side], c.Next[side] - 1} {
					g := tcp.Segment{Flags: flags, Seq: seq, Ack: c.Next[1-side], Win: 3000}
					want, e := tcp.Step(c, side, g)
					for _, more := range []int{api.PSH, api.URG, api.PSH | api.URG, 64, 128, 256, noflags, math.MinInt, ^31} {
						g.Flags = flags | more
						if got, f := tcp.Step(c, side, g); got != want || f != e {
							t.Errorf("Step(%+v, %d, %+v): %+v, %d, want %+v, %d", c, side, g, got, f, want, e)
						}
					}
				}
			}
		}
	}
}

// R3, R4: the same call has the same answer, and what was handed in stays.
func TestSameAnswers(t *testing.T) {
	c := stream(api.StOpen, 100, 500)
	was := c
	g := tcp.Segment{Flags: api.ACK | api.FIN, Seq: 100, Ack: 500, Size: 5, Win: 9000}
	first, e := tcp.Step(c, 0, g)
	for range 3 {
		tcp.Begin(api.SYN, 1, 2, 0)
		tcp.Step(first, 1, tcp.Segment{Flags: api.RST, Seq: 500})
		if again, f := tcp.Step(c, 0, g); again != first || f != e || c != was {
			t.Errorf("%+v, %d, and of the same %+v, %d", first, e, again, f)
		}
	}
}
