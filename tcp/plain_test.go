package tcp_test

import (
	"math/rand"
	"testing"

	"stockade/api"
	"stockade/tcp"
)

type chance struct{ *rand.Rand }

func (c chance) of(n ...int) int { return n[c.Intn(len(n))] }

func (c chance) number(n ...uint32) uint32 {
	if c.Intn(16) == 0 {
		return c.Uint32()
	}
	return n[c.Intn(len(n))]
}

// near is a number at which something turns, seen from n.
func (c chance) near(n uint32) uint32 {
	return n + c.number(0, 0, 0, 0, 1, 1<<32-1, 2, 1<<32-2, 10, 1<<32-10, 1000, 65535, 65536, 1<<32-65535, 1<<32-65536, 1<<31-1, 1<<31, 1<<31+1)
}

// size is mostly a window or a size that may be.
func (c chance) size() int {
	if c.Intn(40) == 0 {
		return c.of(-1, 65536, -1<<40, 1<<40)
	}
	return c.of(0, 0, 0, 1, 2, 1000, 65535, c.Intn(65536))
}

// conn is mostly a stream that may be.
func (c chance) conn() api.Conn {
	x := api.Conn{State: c.of(1, 1, 2, 2, 3, 3, 4, 5, 6), Known: [2]bool{true, true}}
	x.Next = [2]uint32{c.near(c.number(0, 1<<31, 100)), c.near(c.number(0, 1<<31, 500))}
	x.Edge = [2]uint32{c.near(x.Next[0]) + c.number(0, 1000, 65535), c.near(x.Next[1]) + c.number(0, 1000, 65535)}
	one := c.Intn(2)
	switch x.State {
	case 1:
		x.Known[1], x.Edge[1] = false, uint32(c.Intn(65536))
	case 4:
		x.Ended[one] = true
	case 5:
		x.Ended = [2]bool{true, true}
	case 6:
		x.Known[1], x.Ended = one == 0, [2]bool{c.Intn(2) == 0, c.Intn(2) == 0}
	}
	if c.Intn(30) == 0 {
		x.State = c.of(-1, 0, 1, 2, 3, 4, 5, 6, 7)
	}
	if c.Intn(30) == 0 {
		x.Known[one] = !x.Known[one]
	}
	if c.Intn(30) == 0 {
		x.Ended[one] = !x.Ended[one]
	}
	return x
}

// segment is one that may be of use to a stream, or is close to one that is.
func (c chance) segment(x api.Conn, side int) tcp.Segment {
	flags := c.of(api.ACK, api.ACK, api.ACK, api.ACK|api.FIN, api.SYN, api.SYN|api.ACK, api.SYN|api.ACK, api.RST, api.RST|api.ACK, c.Intn(256))
	g := tcp.Segment{Flags: flags | c.of(0, 0, api.PSH, api.URG), Win: c.size(), Size: c.size()}
	if flags&api.SYN != 0 && c.Intn(3) > 0 {
		g.Size = 0
	}
	g.Ack = c.near(x.Next[1-side])
	if c.Intn(3) == 0 {
		g.Ack = x.Next[1-side]
	}
	end := c.near(c.number(x.Next[side], x.Next[side], x.Edge[side]))
	g.Seq = end - uint32(max(0, min(g.Size, 65535)))
	if flags&api.SYN != 0 {
		g.Seq--
	}
	if flags&api.FIN != 0 {
		g.Seq--
	}
	return g
}

const round = int64(1) << 32

// gap is how far a is from b on, going up and round.
func gap(a, b int64) int64 { return ((a-b)%round + round) % round }

func plainFrom(a, b int64) bool { return gap(a, b) < round/2 }

// plainRight is whether a stream may be, read off the list of those that may.
func plainRight(c api.Conn) bool {
	known, ended := mayBe(c.State)
	for _, k := range known {
		for _, e := range ended {
			if c.Known == k && c.Ended == e {
				return true
			}
		}
	}
	return false
}

// plainSide is what belongs to a side, as numbers that do not go round.
type plainSide struct{ next, edge int64 }

// plainStep reads the chapter line by line.
func plainStep(c api.Conn, side int, g tcp.Segment) (api.Conn, api.Errno) {
	if !plainRight(c) || side < 0 || side > 1 || g.Win < 0 || g.Win > 65535 || g.Size < 0 || g.Size > 65535 {
		return api.Conn{}, 1
	}
	syn, ack, fin, rst := g.Flags>>1&1, g.Flags>>4&1, g.Flags&1, g.Flags>>2&1
	own := plainSide{int64(c.Next[side]), int64(c.Edge[side])}
	other := plainSide{int64(c.Next[1-side]), int64(c.Edge[1-side])}
	end := int64(g.Seq) + int64(g.Size) + int64(syn) + int64(fin)
	window := c.Known[side] && plainFrom(end, own.next-65535) && plainFrom(own.edge, end)
	right := plainFrom(int64(g.Ack), other.next-65535) && plainFrom(other.next, int64(g.Ack))
	limit := int64(g.Ack) + int64(g.Win)
	answers := side == 1 && ack == 1 && g.Ack == c.Next[0]
	same := gap(end, own.next) == 0
	switch {
	case rst == 1 && (window || answers && c.State == 1):
		c.State = 6
		return c, 0
	case rst == 1, c.State == 6:
		return api.Conn{}, 23
	case syn == 1 && fin == 0 && g.Size == 0 && side == 0 && c.State == 1 && ack == 0 && same:
		return c, 0
	case syn == 1 && fin == 0 && g.Size == 0 && answers && c.State == 1:
		c.Known[1], c.Next[1], c.Edge[1], c.Edge[0], c.State = true, uint32(end), uint32(end+own.edge), uint32(limit), 2
		return c, 0
	case syn == 1 && fin == 0 && g.Size == 0 && answers && c.State == 2 && same:
		return c, 0
	case syn == 1, ack == 0, c.State == 1, c.State == 2 && side == 1, !window, !right:
		return api.Conn{}, 23
	}
	if plainFrom(end, own.next) {
		c.Next[side] = uint32(end)
	}
	if plainFrom(limit, other.edge) {
		c.Edge[1-side] = uint32(limit)
	}
	c.Ended[side] = c.Ended[side] || fin == 1
	c.State = map[[2]bool]int{{false, false}: 3, {true, false}: 4, {false, true}: 4, {true, true}: 5}[c.Ended]
	return c, 0
}

// P15.2, P15.3: every answer is the plain one.
func TestAsPlain(t *testing.T) {
	c := chance{rand.New(rand.NewSource(15))}
	took, refused := map[[3]int]int{}, map[[3]int]int{}
	wrong := 0
	for range 400000 {
		x, side := c.conn(), c.Intn(2)
		if c.Intn(60) == 0 {
			side = c.of(-1, 2, 1<<40)
		}
		g := c.segment(x, side&1)
		want, e := plainStep(x, side, g)
		got, f := tcp.Step(x, side, g)
		if got != want || f != e || tcp.Right(x) != plainRight(x) {
			t.Fatalf("Step(%+v, %d, %+v): %+v, %d, want %+v, %d", x, side, g, got, f, want, e)
		}
		what := [3]int{x.State, side, g.Flags & (api.SYN | api.RST)}
		switch e {
		case api.OK:
			took[what]++
		case api.ErrState:
			refused[what]++
		default:
			wrong++
		}
	}
	for state := 1; state <= 6; state++ {
		for side := range 2 {
			if n := took[[3]int{state, side, api.RST}]; n < 100 {
				t.Error("too few to tell: RST", state, side, n)
			}
			opened := state >= 3 && state <= 5 || state == 2 && side == 0
			if n := took[[3]int{state, side, 0}]; opened != (n >= 500) || !opened && n > 0 {
				t.Error("too few to tell, or too many:", state, side, n)
			}
			handshake := state == 1 || state == 2 && side == 1
			if n := took[[3]int{state, side, api.SYN}]; handshake != (n >= 100) || !handshake && n > 0 {
				t.Error("too few to tell, or too many: SYN", state, side, n)
			}
			for _, flags := range []int{0, api.SYN, api.RST} {
				if n := refused[[3]int{state, side, flags}]; n < 100 {
					t.Error("too few to tell: refused", state, side, flags, n)
				}
			}
		}
	}
	if wrong < 10000 {
		t.Error("too few to tell: wrong", wrong)
	}
}

// P15.6: a stream that is stepped may be, and from StReset on takes RST alone.
func TestSteppedMayBe(t *testing.T) {
	c := chance{rand.New(rand.NewSource(16))}
	steps := map[[2]int]int{}
	for range 20000 {
		x := c.conn()
		for range 20 {
			side := c.Intn(2)
			g := c.segment(x, side)
			was := x.State
			y, e := tcp.Step(x, side, g)
			if e != api.OK {
				continue
			}
			if !tcp.Right(y) || tcp.Life(y) == 0 {
				t.Fatalf("Step(%+v, %d, %+v): %+v, which may not be", x, side, g, y)
			}
			if was == api.StReset && (g.Flags&api.RST == 0 || y != x) {
				t.Fatalf("Step(%+v, %d, %+v): %+v", x, side, g, y)
			}
			x = y
			steps[[2]int{was, y.State}]++
		}
	}
	for _, s := range [][2]int{{1, 1}, {1, 2}, {2, 2}, {2, 3}, {2, 4}, {3, 3}, {3, 4}, {4, 4}, {4, 5}, {5, 5}, {1, 6}, {2, 6}, {3, 6}, {4, 6}, {5, 6}, {6, 6}} {
		if steps[s] < 100 {
			t.Error("too few to tell:", s, steps[s])
		}
		delete(steps, s)
	}
	if len(steps) != 0 {
		t.Error("no such steps:", steps)
	}
}

// moved is a stream of which each side's numbers are moved; the Edge of a side that is not known is a distance.
func moved(c api.Conn, by [2]uint32) api.Conn {
	for side, known := range c.Known {
		if known {
			c.Next[side] += by[side]
			c.Edge[side] += by[side]
		}
	}
	return c
}

// P15.7: the answers of moved numbers are the moved answers, be it a stream or an error.
func TestMoved(t *testing.T) {
	c := chance{rand.New(rand.NewSource(17))}
	took, refused := 0, 0
	for range 200000 {
		x, side := c.conn(), c.Intn(2)
		g := c.segment(x, side)
		by := [2]uint32{c.near(c.Uint32()), c.near(0)}
		if c.Intn(2) == 0 {
			by = [2]uint32{c.near(0), c.near(c.Uint32())}
		}
		h := g
		h.Seq += by[side]
		h.Ack += by[1-side]
		y, e := tcp.Step(x, side, g)
		z, f := tcp.Step(moved(x, by), side, h)
		if e != f || z != moved(y, by) {
			t.Fatalf("Step(%+v, %d, %+v): %+v, %d; moved by %v: %+v, %d", x, side, g, y, e, by, z, f)
		}
		if e == api.OK {
			took++
		} else {
			refused++
		}
	}
	if took < 20000 || refused < 20000 {
		t.Error("too few to tell:", took, refused)
	}
}

// P15.7: a beginning is moved with its number.
func TestBeginMoved(t *testing.T) {
	first, _ := tcp.Begin(api.SYN, 0, 1000, 0)
	for _, n := range bases() {
		if c, e := tcp.Begin(api.SYN, n, 1000, 0); c != moved(first, [2]uint32{n, 5}) || e != api.OK {
			t.Errorf("Begin at %d: %+v, %d", n, c, e)
		}
	}
}
