package tcp_test

import (
	"testing"

	"stockade/api"
	"stockade/tcp"
)

// reach is how far a number is from the next one, and whether a segment that ends there is in the window of one that may send n.
type reach struct {
	off   uint32
	taken bool
}

func reaches(n uint32) []reach {
	return []reach{
		{1<<32 - 65537, false}, {1<<32 - 65536, false}, {1<<32 - 65535, true}, {1<<32 - 65534, true},
		{1<<32 - 2, true}, {1<<32 - 1, true}, {0, true}, {1, n >= 1}, {n / 2, true},
		{n - 1, true}, {n, true}, {n + 1, false}, {n + 2, false},
		{1<<31 - 65536, false}, {1<<31 - 65535, false}, {1<<31 - 1, false}, {1 << 31, false}, {1<<31 + 1, false}, {1<<31 + n, false}, {1<<31 + n + 1, false},
	}
}

// segments are all that end at one number: with bytes, without, and with a FIN.
func segments(flags int, end, ack uint32, win int) []tcp.Segment {
	return []tcp.Segment{
		{Flags: flags, Seq: end, Ack: ack, Win: win},
		{Flags: flags, Seq: end - 1, Ack: ack, Win: win, Size: 1},
		{Flags: flags, Seq: end - 1460, Ack: ack, Win: win, Size: 1460},
		{Flags: flags, Seq: end - 65535, Ack: ack, Win: win, Size: 65535},
		{Flags: flags | api.FIN, Seq: end - 1, Ack: ack, Win: win},
		{Flags: flags | api.FIN, Seq: end - 1001, Ack: ack, Win: win, Size: 1000},
		{Flags: flags | api.FIN, Seq: end - 65536, Ack: ack, Win: win, Size: 65535},
	}
}

// behind is what a stream becomes of a segment behind the handshake that it takes, with no new Edge.
func behind(c api.Conn, side int, g tcp.Segment, next uint32) api.Conn {
	c.Next[side] = next
	if g.Flags&api.FIN != 0 {
		c.Ended[side] = true
	}
	c.State = 3
	for _, ended := range c.Ended {
		if ended {
			c.State++
		}
	}
	return c
}

// later is the farther one of a number and another one that is so far from it, also behind it.
func later(n, off uint32) uint32 {
	if off < 1<<31 {
		return n + off
	}
	return n
}

// P15.3: where a segment may end, of each state behind the handshake and of either side.
func TestWindow(t *testing.T) {
	for _, a := range bases() {
		for state := api.StAck; state <= api.StBoth; state++ {
			for side := range 2 {
				c := stream(state, a, 7777-a)
				for _, r := range reaches([]uint32{2000, 1000}[side]) {
					for _, g := range segments(api.ACK, c.Next[side]+r.off, c.Next[1-side], 0) {
						taken := r.taken && !(state == api.StAck && side == 1)
						wantTaken(t, c, side, g, taken, behind(c, side, g, later(c.Next[side], r.off)))
					}
				}
			}
		}
	}
}

// P15.3: a stream that nothing began, its Edge as far off as it may be, and behind what comes next.
func TestWindowFarEdge(t *testing.T) {
	for _, a := range few() {
		for side := range 2 {
			for _, x := range []struct {
				edge, off uint32
				taken     bool
			}{
				{1<<31 - 1, 0, true}, {1<<31 - 1, 1<<32 - 1, false}, {1<<31 - 1, 1, true}, {1<<31 - 1, 1<<31 - 65536, true}, {1<<31 - 1, 1<<31 - 65535, false},
				{1 << 31, 0, false}, {1 << 31, 1, true}, {1<<31 + 9, 9, false}, {1<<31 + 9, 10, true},
				{1<<31 - 65536, 1<<32 - 65535, true}, {1<<31 - 65535, 1<<32 - 65535, false}, {1<<31 - 65535, 1<<32 - 65534, true}, {1<<31 - 65536, 1<<32 - 65536, false},
				{0, 0, true}, {0, 1, false}, {0, 1<<32 - 1, true},
				{1<<32 - 1, 0, false}, {1<<32 - 1, 1<<32 - 1, true}, {1<<32 - 1, 1<<32 - 65535, true},
				{1<<32 - 65535, 1<<32 - 65535, true}, {1<<32 - 65535, 1<<32 - 65534, false}, {1<<32 - 65536, 1<<32 - 65536, false}, {1<<32 - 65536, 1<<32 - 65535, false},
			} {
				c := stream(api.StOpen, a, a+99)
				c.Edge[side] = c.Next[side] + x.edge
				for _, g := range segments(api.ACK, c.Next[side]+x.off, c.Next[1-side], 0) {
					wantTaken(t, c, side, g, x.taken, behind(c, side, g, later(c.Next[side], x.off)))
				}
			}
		}
	}
}

// P15.3: which acks are right, of either side.
func TestAck(t *testing.T) {
	for _, b := range bases() {
		for state := api.StAck; state <= api.StBoth; state++ {
			for side := range 2 {
				c := stream(state, b, b)
				for _, r := range reaches(0) {
					g := tcp.Segment{Flags: api.ACK, Seq: c.Next[side], Ack: c.Next[1-side] + r.off}
					taken := !(state == api.StAck && side == 1) && (r.off == 0 || r.off >= 1<<32-65535)
					wantTaken(t, c, side, g, taken, behind(c, side, g, c.Next[side]))
				}
			}
		}
	}
}

// P15.3: the other side's Edge becomes Ack and Win, if it is passed or met; Win alone does not count.
func TestEdge(t *testing.T) {
	for _, b := range bases() {
		for side := range 2 {
			for _, back := range []uint32{0, 1, 1000, 65535} {
				for _, win := range []int{0, 1, 1000, 65535} {
					g := tcp.Segment{Flags: api.ACK, Seq: 55, Ack: b - back, Win: win}
					limit := b - back + uint32(win)
					for _, x := range []struct {
						ahead  uint32
						passes bool
					}{
						{0, true}, {1, true}, {2, true}, {65535, true}, {1<<31 - 1, true}, {1 << 31, false}, {1<<31 + 1, false}, {1<<32 - 65535, false}, {1<<32 - 2, false}, {1<<32 - 1, false},
					} {
						c := stream(api.StOpen, 55, b)
						c.Next[side], c.Edge[side], c.Next[1-side] = 55, 55, b
						c.Edge[1-side] = limit - x.ahead
						want := c
						if x.passes {
							want.Edge[1-side] = limit
						}
						wantStep(t, c, side, g, want)
					}
				}
			}
		}
	}
}

// P15.3: bytes, an ack and a window of one segment together; each side's numbers are its own.
func TestBoth(t *testing.T) {
	c := stream(api.StOpen, 100, 500)
	wantStep(t, c, 0, tcp.Segment{Flags: api.ACK, Seq: 100, Size: 50, Ack: 490, Win: 4000}, turned(c, func(c C) { c.Next[0], c.Edge[1] = 150, 4490 }))
	wantStep(t, c, 1, tcp.Segment{Flags: api.ACK, Seq: 490, Size: 50, Ack: 99, Win: 4000}, turned(c, func(c C) { c.Next[1], c.Edge[0] = 540, 4099 }))
	wantStep(t, c, 0, tcp.Segment{Flags: api.ACK, Seq: 90, Size: 5, Ack: 500, Win: 999}, c)
	wantStep(t, c, 1, tcp.Segment{Flags: api.ACK, Seq: 490, Size: 10, Ack: 100, Win: 2000}, c)
	wantRefused(t, c, 0, tcp.Segment{Flags: api.ACK, Seq: 100, Size: 2001, Ack: 490, Win: 4000}, api.ErrState)
	wantRefused(t, c, 0, tcp.Segment{Flags: api.ACK, Seq: 100, Size: 50, Ack: 501, Win: 4000}, api.ErrState)
}

// P15.3: without ACK, in StSyn, and of side 1 in StAck nothing is taken but SYN and RST.
func TestNoAck(t *testing.T) {
	for state := 1; state <= 6; state++ {
		c := stream(state, 100, 500)
		for side := range 2 {
			for _, g := range segments(0, c.Next[side], c.Next[1-side], 10) {
				wantRefused(t, c, side, g, api.ErrState)
				g.Flags |= noflags
				wantRefused(t, c, side, g, api.ErrState)
				g.Flags |= api.ACK
				if state == api.StSyn || state == api.StReset || state == api.StAck && side == 1 {
					wantRefused(t, c, side, g, api.ErrState)
				} else {
					wantStep(t, c, side, g, behind(c, side, g, c.Next[side]))
				}
			}
		}
	}
}

// P15.3: the first ack opens, also one with bytes and one with a FIN.
func TestOpening(t *testing.T) {
	c := stream(api.StAck, 100, 500)
	wantStep(t, c, 0, tcp.Segment{Flags: api.ACK, Seq: 100, Ack: 500}, turned(c, func(c C) { c.State = 3 }))
	wantStep(t, c, 0, tcp.Segment{Flags: api.ACK, Seq: 100, Ack: 500, Size: 2000}, turned(c, func(c C) { c.State, c.Next[0] = 3, 2100 }))
	wantStep(t, c, 0, tcp.Segment{Flags: api.ACK | api.FIN, Seq: 100, Ack: 500}, turned(c, func(c C) { c.State, c.Next[0], c.Ended[0] = 4, 101, true }))
	wantRefused(t, c, 0, tcp.Segment{Flags: api.ACK, Seq: 100, Ack: 501}, api.ErrState)
}

// P15.3: both ends in either order, an end again, and bytes behind an end.
func TestEnds(t *testing.T) {
	fin := func(c api.Conn, side int) tcp.Segment {
		return tcp.Segment{Flags: api.FIN | api.ACK, Seq: c.Next[side], Ack: c.Next[1-side]}
	}
	for _, n := range bases() {
		for side := range 2 {
			open := stream(api.StOpen, n, n+5)
			one := turned(open, func(c C) { c.State, c.Ended[side] = 4, true; c.Next[side]++ })
			both := turned(one, func(c C) { c.State, c.Ended[1-side] = 5, true; c.Next[1-side]++ })
			wantStep(t, open, side, fin(open, side), one)
			wantStep(t, one, side, fin(open, side), one)
			wantStep(t, one, 1-side, fin(one, 1-side), both)
			wantStep(t, both, 1-side, fin(one, 1-side), both)
			wantStep(t, both, side, fin(open, side), both)
			for _, c := range []api.Conn{one, both} {
				for s := range 2 {
					wantStep(t, c, s, tcp.Segment{Flags: api.ACK, Seq: c.Next[s], Ack: c.Next[1-s], Size: 9}, turned(c, func(c C) { c.Next[s] += 9 }))
					wantStep(t, c, s, tcp.Segment{Flags: api.ACK, Seq: c.Next[s], Ack: c.Next[1-s] - 1}, c)
				}
			}
		}
	}
}

// P15.3: a FIN with too many bytes ahead of it is past the Edge by the FIN alone.
func TestFinAtEdge(t *testing.T) {
	for side := range 2 {
		c := stream(api.StOpen, 100, 500)
		room := []int{2000, 1000}[side]
		g := tcp.Segment{Flags: api.FIN | api.ACK, Seq: c.Next[side], Ack: c.Next[1-side], Size: room - 1}
		wantStep(t, c, side, g, behind(c, side, g, c.Edge[side]))
		g.Size++
		wantRefused(t, c, side, g, api.ErrState)
		g.Flags = api.ACK
		wantStep(t, c, side, g, behind(c, side, g, c.Edge[side]))
	}
}

// P15.3: a SYN of side 0 in StSyn comes again.
func TestSynAgain(t *testing.T) {
	for _, n := range bases() {
		c, _ := tcp.Begin(api.SYN, n, 1000, 0)
		wantStep(t, c, 0, tcp.Segment{Flags: api.SYN, Seq: n, Win: 1000}, c)
		wantStep(t, c, 0, tcp.Segment{Flags: api.SYN | noflags, Seq: n, Ack: 5, Win: 65535}, c)
		for _, off := range []uint32{1, 2, 1000, 1 << 31, 1<<32 - 65535, 1<<32 - 2, 1<<32 - 1} {
			wantRefused(t, c, 0, tcp.Segment{Flags: api.SYN, Seq: n + off, Win: 1000}, api.ErrState)
		}
		for _, ack := range []uint32{0, n, n + 1} {
			wantRefused(t, c, 0, tcp.Segment{Flags: api.SYN | api.ACK, Seq: n, Ack: ack, Win: 1000}, api.ErrState)
		}
		wantRefused(t, c, 0, tcp.Segment{Flags: api.SYN | api.FIN, Seq: n}, api.ErrState)
		wantRefused(t, c, 0, tcp.Segment{Flags: api.SYN | api.FIN, Seq: n - 1}, api.ErrState)
		wantRefused(t, c, 0, tcp.Segment{Flags: api.SYN, Seq: n, Size: 1}, api.ErrState)
		wantRefused(t, c, 0, tcp.Segment{Flags: api.SYN, Seq: n - 1, Size: 1}, api.ErrState)
		// Its Edge does not count.
		far := turned(c, func(c C) { c.Edge[0] = n + 1<<31 })
		wantStep(t, far, 0, tcp.Segment{Flags: api.SYN, Seq: n}, far)
	}
}

// P15.3: the answer to a SYN, of any number.
func TestSynAnswer(t *testing.T) {
	for _, a := range bases() {
		for _, b := range bases() {
			for _, win := range []int{0, 1, 2000, 65535} {
				c, _ := tcp.Begin(api.SYN, a, 1000, 0)
				g := tcp.Segment{Flags: api.SYN | api.ACK, Seq: b, Ack: a + 1, Win: win}
				want := api.Conn{State: 2, Next: [2]uint32{a + 1, b + 1}, Edge: [2]uint32{a + 1 + uint32(win), b + 1001}, Known: [2]bool{true, true}}
				wantStep(t, c, 1, g, want)
				g.Flags |= noflags
				wantStep(t, c, 1, g, want)
				for _, wrong := range []tcp.Segment{
					{Flags: api.SYN, Seq: b, Ack: a + 1, Win: win},
					{Flags: api.SYN | api.ACK, Seq: b, Ack: a, Win: win},
					{Flags: api.SYN | api.ACK, Seq: b, Ack: a + 2, Win: win},
					{Flags: api.SYN | api.ACK, Seq: b, Ack: a + 1 + 1<<31, Win: win},
					{Flags: api.SYN | api.ACK | api.FIN, Seq: b, Ack: a + 1, Win: win},
					{Flags: api.SYN | api.ACK, Seq: b, Ack: a + 1, Win: win, Size: 1},
					{Flags: api.SYN | api.ACK | api.FIN, Seq: b, Ack: a + 1, Win: win, Size: 65535},
					{Flags: api.ACK, Seq: b, Ack: a + 1, Win: win},
				} {
					wantRefused(t, c, 1, wrong, api.ErrState)
				}
			}
		}
	}
	// What side 1 has of a number ahead of it is written over, and its Edge is any distance.
	c := api.Conn{State: 1, Next: [2]uint32{10, 999}, Edge: [2]uint32{7, 1<<32 - 3}, Known: [2]bool{true, false}}
	wantStep(t, c, 1, tcp.Segment{Flags: api.SYN | api.ACK, Seq: 500, Ack: 10, Win: 2}, api.Conn{State: 2, Next: [2]uint32{10, 501}, Edge: [2]uint32{12, 498}, Known: [2]bool{true, true}})
	// Side 0's Edge is written, also if it was farther.
	c.Edge[0] = 5000
	wantStep(t, c, 1, tcp.Segment{Flags: api.SYN | api.ACK, Seq: 500, Ack: 10, Win: 2}, api.Conn{State: 2, Next: [2]uint32{10, 501}, Edge: [2]uint32{12, 498}, Known: [2]bool{true, true}})
}

// P15.3: the answer comes again in StAck, and turns nothing.
func TestSynAnswerAgain(t *testing.T) {
	for _, a := range few() {
		for _, b := range bases() {
			c := stream(api.StAck, a, b)
			for _, win := range []int{0, 1999, 65535} {
				wantStep(t, c, 1, tcp.Segment{Flags: api.SYN | api.ACK, Seq: b - 1, Ack: a, Win: win}, c)
			}
			wantStep(t, c, 1, tcp.Segment{Flags: api.SYN | api.ACK | noflags, Seq: b - 1, Ack: a}, c)
			for _, wrong := range []tcp.Segment{
				{Flags: api.SYN | api.ACK, Seq: b, Ack: a},
				{Flags: api.SYN | api.ACK, Seq: b - 2, Ack: a},
				{Flags: api.SYN | api.ACK, Seq: b - 1, Ack: a - 1},
				{Flags: api.SYN | api.ACK, Seq: b - 1, Ack: a + 1},
				{Flags: api.SYN, Seq: b - 1, Ack: a},
				{Flags: api.SYN | api.ACK | api.FIN, Seq: b - 1, Ack: a},
				{Flags: api.SYN | api.ACK | api.FIN, Seq: b - 2, Ack: a},
				{Flags: api.SYN | api.ACK, Seq: b - 1, Ack: a, Size: 1},
				{Flags: api.SYN | api.ACK, Seq: b - 2, Ack: a, Size: 1},
			} {
				wantRefused(t, c, 1, wrong, api.ErrState)
			}
		}
	}
}

// P15.3: a SYN that no stream waits for, with or without FIN and bytes, also in the window and with a right ack.
func TestSynElsewhere(t *testing.T) {
	for state := api.StAck; state <= api.StReset; state++ {
		for side := range 2 {
			if state == api.StAck && side == 1 {
				continue
			}
			c := stream(state, 100, 500)
			for _, flags := range []int{api.SYN, api.SYN | api.ACK, api.SYN | api.FIN, api.SYN | api.ACK | api.FIN} {
				for _, off := range []uint32{0, 1, 1<<32 - 1, 1<<32 - 2} {
					for _, size := range []int{0, 1, 10} {
						wantRefused(t, c, side, tcp.Segment{Flags: flags, Seq: c.Next[side] + off, Ack: c.Next[1-side], Size: size}, api.ErrState)
					}
				}
			}
		}
	}
}

// P15.3: a RST in the window ends a stream in each state, of either side, whatever else it has.
func TestReset(t *testing.T) {
	for _, a := range few() {
		for state := 1; state <= 6; state++ {
			for side := range 2 {
				c := stream(state, a, a+7)
				if !c.Known[side] {
					continue
				}
				for _, r := range reaches(c.Edge[side] - c.Next[side]) {
					for _, flags := range []int{api.RST, api.RST | api.ACK, api.RST | noflags} {
						for _, g := range segments(flags, c.Next[side]+r.off, 12345, 77) {
							wantTaken(t, c, side, g, r.taken, turned(c, func(c C) { c.State = 6 }))
							g.Flags |= api.SYN // it counts in the end
							g.Seq--
							wantTaken(t, c, side, g, r.taken, turned(c, func(c C) { c.State = 6 }))
						}
					}
				}
			}
		}
	}
}

// P15.3: a RST that answers a SYN: of a side that is not known its ack alone counts.
func TestResetOfUnknown(t *testing.T) {
	for _, n := range bases() {
		c, _ := tcp.Begin(api.SYN, n, 1000, 0)
		gone := turned(c, func(c C) { c.State = 6 })
		for _, seq := range bases() {
			wantStep(t, c, 1, tcp.Segment{Flags: api.RST | api.ACK, Seq: seq, Ack: n + 1, Win: 9}, gone)
			wantStep(t, c, 1, tcp.Segment{Flags: api.RST | api.ACK | api.SYN | api.FIN | noflags, Seq: seq, Ack: n + 1, Size: 65535}, gone)
			wantRefused(t, c, 1, tcp.Segment{Flags: api.RST, Seq: seq, Ack: n + 1}, api.ErrState)
			wantRefused(t, c, 1, tcp.Segment{Flags: api.RST | api.SYN, Seq: seq, Ack: n + 1}, api.ErrState)
			for _, off := range []uint32{1, 1 << 31, 1<<32 - 1} {
				wantRefused(t, c, 1, tcp.Segment{Flags: api.RST | api.ACK, Seq: seq, Ack: n + 1 + off}, api.ErrState)
				wantRefused(t, c, 1, tcp.Segment{Flags: api.RST | api.ACK | api.SYN, Seq: seq, Ack: n + 1 + off}, api.ErrState)
			}
			// Once it is reset, no state waits for that ack, and side 1 is still not known.
			wantRefused(t, gone, 1, tcp.Segment{Flags: api.RST | api.ACK, Seq: seq, Ack: n + 1}, api.ErrState)
		}
	}
	// The same ack is of no use to side 0, nor in another state.
	c := api.Conn{State: 1, Next: [2]uint32{100, 0}, Edge: [2]uint32{100, 0}, Known: [2]bool{true, false}}
	wantRefused(t, c, 0, tcp.Segment{Flags: api.RST | api.ACK, Seq: 101, Ack: 100}, api.ErrState)
	for state := api.StAck; state <= api.StReset; state++ {
		wantRefused(t, stream(state, 100, 500), 1, tcp.Segment{Flags: api.RST | api.ACK, Seq: 1501, Ack: 100}, api.ErrState)
	}
}

// P15.3: a RST that is not taken is not taken as something else.
func TestResetIsNoSyn(t *testing.T) {
	c := api.Conn{State: 1, Next: [2]uint32{100, 0}, Edge: [2]uint32{99, 50}, Known: [2]bool{true, false}}
	wantStep(t, c, 0, tcp.Segment{Flags: api.SYN, Seq: 99}, c)
	wantRefused(t, c, 0, tcp.Segment{Flags: api.SYN | api.RST, Seq: 99}, api.ErrState)
	c = turned(stream(api.StAck, 100, 500), func(c C) { c.Edge[1] = 499 })
	wantStep(t, c, 1, tcp.Segment{Flags: api.SYN | api.ACK, Seq: 499, Ack: 100}, c)
	wantRefused(t, c, 1, tcp.Segment{Flags: api.SYN | api.ACK | api.RST, Seq: 499, Ack: 100}, api.ErrState)
}

// P15.3, P15.6: a stream that is reset keeps all else, and takes RST alone.
func TestResetKeeps(t *testing.T) {
	kinds(func(c api.Conn, right bool) {
		if !right || c.State != api.StReset {
			return
		}
		c.Next, c.Edge = [2]uint32{100, 500}, [2]uint32{2100, 1500}
		for side := range 2 {
			for flags := range 64 {
				g := tcp.Segment{Flags: flags, Seq: c.Next[side], Ack: c.Next[1-side], Win: 60000}
				wantTaken(t, c, side, g, flags&api.RST != 0 && c.Known[side], c)
			}
		}
	})
}
