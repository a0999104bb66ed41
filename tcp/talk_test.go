package tcp_test

import (
	"math/rand"
	"testing"

	"stockade/api"
	"stockade/tcp"
)

// talk is a stream and what its two sides know of one another, as numbers from their SYNs on, which do not go round.
type talk struct {
	t      testing.TB
	chance chance
	conn   api.Conn
	start  [2]uint32
	next   [2]int64 // what comes next from a side
	may    [2]int64 // how far the other side's segments have let it go
	acked  [2]int64 // how far the other side has told that it has all
	ended  [2]bool
	state  int
}

func (k *talk) number(side int, n int64) uint32 { return k.start[side] + uint32(n) }

// check holds the stream against what the sides know.
func (k *talk) check(e api.Errno, g tcp.Segment) {
	k.t.Helper()
	want := api.Conn{State: k.state, Known: [2]bool{true, true}, Ended: k.ended}
	for s := range 2 {
		want.Next[s], want.Edge[s] = k.number(s, k.next[s]), k.number(s, k.may[s])
	}
	if k.conn != want || e != api.OK {
		k.t.Fatalf("%+v: %+v, %d, want %+v", g, k.conn, e, want)
	}
}

// begun is a talk behind a handshake from these numbers on, in which each of the first two segments comes twice.
func begun(t testing.TB, c chance, start [2]uint32, win [2]int) *talk {
	t.Helper()
	k := &talk{t: t, chance: c, start: start, next: [2]int64{1, 1}, acked: [2]int64{1, 1}, state: api.StAck}
	k.may = [2]int64{1 + int64(win[1]), 1 + int64(win[0])}
	syn := tcp.Segment{Flags: api.SYN, Seq: start[0], Win: win[0]}
	answer := tcp.Segment{Flags: api.SYN | api.ACK, Seq: start[1], Ack: start[0] + 1, Win: win[1]}
	ack := tcp.Segment{Flags: api.ACK, Seq: start[0] + 1, Ack: start[1] + 1, Win: win[0]}
	first, e := tcp.Begin(syn.Flags, syn.Seq, syn.Win, syn.Size)
	k.conn = first
	if e == api.OK {
		k.conn, e = tcp.Step(k.conn, 0, syn)
	}
	if k.conn != first || e != api.OK || first.State != api.StSyn {
		t.Fatalf("%+v: %+v, %d", syn, k.conn, e)
	}
	for range 2 {
		k.conn, e = tcp.Step(k.conn, 1, answer)
		k.check(e, answer)
	}
	k.state = api.StOpen
	k.conn, e = tcp.Step(k.conn, 0, ack)
	k.check(e, ack)
	return k
}

// send is a segment in order of a side, as long as it may be or shorter, which acks what came, not always all of it; and perhaps the end.
func (k *talk) send(side, ends int) {
	k.t.Helper()
	g := tcp.Segment{Flags: api.ACK | k.chance.of(0, api.PSH), Seq: k.number(side, k.next[side])}
	room := k.may[side] - k.next[side]
	if !k.ended[side] && room > 0 {
		if k.chance.Intn(1000) < ends {
			g.Flags |= api.FIN
			room--
			k.ended[side] = true
		}
		g.Size = k.chance.of(0, int(min(room, 1)), int(min(room, 65535)), k.chance.Intn(int(min(room, 65535))+1))
		k.next[side] += int64(g.Size) + int64(g.Flags&api.FIN)
	}
	other := 1 - side
	ack := k.next[other]
	if k.chance.Intn(3) == 0 {
		ack -= k.chance.Int63n(ack - k.acked[other] + 1)
	}
	k.acked[other] = ack
	g.Ack, g.Win = k.number(other, ack), k.chance.of(0, 1, 1000, 65535, 65535, 65535)
	k.may[other] = max(k.may[other], ack+int64(g.Win))
	for _, ended := range k.ended {
		if ended && k.state < api.StBoth {
			k.state = max(k.state, api.StFin)
		}
	}
	if k.ended[0] && k.ended[1] {
		k.state = api.StBoth
	}
	var e api.Errno
	k.conn, e = tcp.Step(k.conn, side, g)
	k.check(e, g)
}

// P15.5: the handshake of all numbers and windows, and the first bytes behind it, to the last one that may be sent.
func TestHandshake(t *testing.T) {
	for _, a := range bases() {
		for _, b := range bases() {
			for _, win := range [][2]int{{0, 0}, {1, 0}, {0, 1}, {1000, 2000}, {65535, 65535}} {
				k := begun(t, chance{}, [2]uint32{a, b}, win)
				for side := range 2 {
					g := tcp.Segment{Flags: api.ACK, Seq: k.number(side, 1), Ack: k.number(1-side, 1), Size: win[1-side]}
					c, e := tcp.Step(k.conn, side, g)
					if c != turned(k.conn, func(c C) { c.Next[side] = c.Edge[side] }) || e != api.OK {
						t.Fatalf("%+v: %+v, %d", g, c, e)
					}
					g.Seq++
					wantRefused(t, k.conn, side, g, api.ErrState)
				}
			}
		}
	}
}

// P15.5: the SYN and its answer with wrong numbers lead nowhere.
func TestWrongHandshake(t *testing.T) {
	for _, a := range few() {
		for _, b := range few() {
			c, _ := tcp.Begin(api.SYN, a, 1000, 0)
			wantRefused(t, c, 0, tcp.Segment{Flags: api.ACK, Seq: a + 1, Ack: b + 1}, api.ErrState)
			wantRefused(t, c, 1, tcp.Segment{Flags: api.SYN | api.ACK, Seq: b, Ack: a}, api.ErrState)
			c, e := tcp.Step(c, 1, tcp.Segment{Flags: api.SYN | api.ACK, Seq: b, Ack: a + 1, Win: 1000})
			if e != api.OK {
				t.Fatal(a, b, e)
			}
			wantRefused(t, c, 1, tcp.Segment{Flags: api.ACK, Seq: b + 1, Ack: a + 1}, api.ErrState)
			wantRefused(t, c, 0, tcp.Segment{Flags: api.ACK, Seq: a + 1, Ack: b + 2}, api.ErrState)
			wantRefused(t, c, 0, tcp.Segment{Flags: api.SYN, Seq: a}, api.ErrState)
		}
	}
}

// P15.5: talks of both sides from any numbers on, to both ends in either order.
func TestTalks(t *testing.T) {
	c := chance{rand.New(rand.NewSource(18))}
	first := [2]int{}
	for n := range 2000 {
		start := [2]uint32{c.near(bases()[n%len(bases())]), c.Uint32()}
		k := begun(t, c, start, [2]int{c.of(0, 1, 1000, 65535), c.of(0, 1, 1000, 65535)})
		for range 400 {
			k.send(c.Intn(2), 20)
			if k.state == api.StFin && !k.ended[1] {
				first[0]++
			} else if k.state == api.StFin {
				first[1]++
			}
		}
	}
	if first[0] < 1000 || first[1] < 1000 {
		t.Error("too few to tell:", first)
	}
}

// P15.5: a talk without end, in which the numbers of both sides go all round.
func TestTalkRound(t *testing.T) {
	c := chance{rand.New(rand.NewSource(19))}
	k := begun(t, c, [2]uint32{1 << 31, 77}, [2]int{65535, 65535})
	for range 700000 {
		k.send(c.Intn(2), 0)
	}
	if k.next[0] < round || k.next[1] < round {
		t.Error("too few to tell:", k.next)
	}
}
