package flow_test

import (
	"math"
	"testing"

	"stockade/api"
	"stockade/flow"
	"stockade/tcp"
)

func wantGo(t testing.TB, f api.Flow, side int, s api.Seg, now int, want api.Flow) {
	t.Helper()
	got, e := flow.Go(f, side, s, now)
	if got != want || e != api.OK {
		t.Errorf("Go(%+v, %d, %+v, %d): %+v, %d, want %+v", f, side, s, now, got, e, want)
	}
	if !flow.Right(got) {
		t.Errorf("Go(%+v, %d, %+v, %d): %+v, which may not be", f, side, s, now, got)
	}
}

func wantNoGo(t testing.TB, f api.Flow, side int, s api.Seg, now int, want api.Errno) {
	t.Helper()
	if got, e := flow.Go(f, side, s, now); got != (api.Flow{}) || e != want {
		t.Errorf("Go(%+v, %d, %+v, %d): %+v, %d, want error %d", f, side, s, now, got, e, want)
	}
}

// lifeOf is how long a flow of another protocol than TCP, or with an open stream, is kept.
func lifeOf(w api.Tuple, both bool) int {
	switch {
	case w.Proto == api.TCP:
		return 3600
	case w.Proto == api.UDP && both:
		return 180
	case w.Proto == api.UDP:
		return 30
	}
	return 10
}

// P16.2, P16.7: a flow of each protocol and family goes on, from both sides, at all times, whatever its own Ends was.
func TestGo(t *testing.T) {
	for _, w := range append(rightWays(), back(way4(api.TCP)), back(way6(api.UDP))) {
		for side := range 2 {
			for _, both := range []bool{false, true} {
				for _, now := range rightTimes() {
					for _, ends := range []int{0, 100, api.MaxTime} {
						for help := range 4 {
							f := turned(flowOf(w), func(f F) { f.Ends, f.Help, f.Both = ends, help, both })
							want := turned(f, func(f F) { f.Both = both || side == 1 })
							want.Ends = now + lifeOf(w, want.Both)
							if w.Proto == api.TCP {
								want.Conn.Edge[1-side] = want.Conn.Next[1-side] + 2000
							}
							wantGo(t, f, side, onward(w, side), now, want)
						}
					}
				}
			}
		}
	}
}

// P16.2: a talk of UDP: packets of the one side alone do not make it last long.
func TestGoUDP(t *testing.T) {
	for _, w := range []api.Tuple{way4(api.UDP), way6(api.UDP)} {
		f, e := flow.Start(first(w), 5, api.SIP)
		want := api.Flow{Tuple: w, Ends: 35, Help: api.SIP}
		if f != want || e != api.OK {
			t.Fatal(f, e)
		}
		for _, c := range []struct {
			side, now, ends int
			both            bool
		}{{0, 6, 36, false}, {0, 30, 60, false}, {1, 31, 211, true}, {0, 32, 212, true}, {1, 40, 220, true}, {0, 5, 185, true}} {
			s := api.Seg{Tuple: w}
			if c.side == 1 {
				s.Tuple = back(w)
			}
			want.Ends, want.Both = c.ends, c.both
			wantGo(t, f, c.side, s, c.now, want)
			f, _ = flow.Go(f, c.side, s, c.now)
		}
		wantGo(t, f, 0, api.Seg{Tuple: w, Flags: -1, Win: -1, Type: 3, Code: 9, Data: make([]byte, 65536), Err: true}, 0, turned(want, func(f F) { f.Ends = 180 }))
	}
}

// P16.2: a talk of TCP, to both ends, and how long each state makes it last.
func TestGoTCP(t *testing.T) {
	for _, w := range []api.Tuple{way4(api.TCP), way6(api.TCP)} {
		f, e := flow.Start(first(w), 10, api.FTP)
		if f.Ends != 40 || f.Conn.State != api.StSyn || e != api.OK {
			t.Fatal(f, e)
		}
		for i, c := range []struct {
			side  int
			s     api.Seg
			state int
			life  int
			both  bool
			next  [2]uint32
			edge  [2]uint32
		}{
			{side: 0, s: first(w), state: api.StSyn, life: 30, next: [2]uint32{100, 0}, edge: [2]uint32{100, 1000}},
			{side: 1, s: answer(w), state: api.StAck, life: 30, both: true, next: [2]uint32{100, 500}, edge: [2]uint32{1100, 1500}},
			{side: 0, s: api.Seg{Flags: api.ACK, Seq: 100, Ack: 500, Win: 1000}, state: api.StOpen, life: 3600, both: true, next: [2]uint32{100, 500}, edge: [2]uint32{1100, 1500}},
			{side: 0, s: api.Seg{Flags: api.ACK | api.PSH, Seq: 100, Ack: 500, Win: 1200, Data: make([]byte, 7)}, state: api.StOpen, life: 3600, both: true, next: [2]uint32{107, 500}, edge: [2]uint32{1100, 1700}},
			{side: 1, s: api.Seg{Flags: api.ACK, Seq: 500, Ack: 107, Win: 1000, Data: make([]byte, 20)}, state: api.StOpen, life: 3600, both: true, next: [2]uint32{107, 520}, edge: [2]uint32{1107, 1700}},
			{side: 1, s: api.Seg{Flags: api.ACK | api.FIN, Seq: 520, Ack: 107, Win: 1000}, state: api.StFin, life: 60, both: true, next: [2]uint32{107, 521}, edge: [2]uint32{1107, 1700}},
			{side: 0, s: api.Seg{Flags: api.ACK | api.FIN, Seq: 107, Ack: 521, Win: 0}, state: api.StBoth, life: 30, both: true, next: [2]uint32{108, 521}, edge: [2]uint32{1107, 1700}},
			{side: 1, s: api.Seg{Flags: api.RST, Seq: 521}, state: api.StReset, life: 1, both: true, next: [2]uint32{108, 521}, edge: [2]uint32{1107, 1700}},
		} {
			c.s.Tuple = w
			if c.side == 1 {
				c.s.Tuple = back(w)
			}
			now := 1000 - i
			got, e := flow.Go(f, c.side, c.s, now)
			if e != api.OK || got.Tuple != w || got.Help != api.FTP || got.Both != c.both || got.Ends != now+c.life {
				t.Fatalf("%d: %+v, %d, want life %d", i, got, e, c.life)
			}
			if got.Conn.State != c.state || got.Conn.Next != c.next || got.Conn.Edge != c.edge {
				t.Fatalf("%d: %+v", i, got.Conn)
			}
			f = got
		}
	}
}

// P16.2: the answer to a SYN that refuses it is a packet of the other way, too.
func TestGoRefused(t *testing.T) {
	w := way6(api.TCP)
	f, _ := flow.Start(first(w), 10, 0)
	s := api.Seg{Tuple: back(w), Flags: api.RST | api.ACK, Seq: 0, Ack: 100}
	wantGo(t, f, 1, s, 12, api.Flow{Tuple: w, Conn: turned(f.Conn, func(c C) { c.State = api.StReset }), Ends: 13, Both: true})
}

// P16.2: echoes of both families: questions of side 0, answers of side 1, of Code 0 alone.
func TestGoEcho(t *testing.T) {
	for _, w := range []api.Tuple{way4(api.ICMP), way6(api.ICMP6)} {
		types := map[int][2]int{4: {8, 0}, 6: {128, 129}}[w.Fam]
		for _, both := range []bool{false, true} {
			f := turned(flowOf(w), func(f F) { f.Both = both })
			for side := range 2 {
				s := api.Seg{Tuple: w}
				if side == 1 {
					s.Tuple = back(w)
				}
				want := turned(f, func(f F) { f.Ends, f.Both = 60, both || side == 1 })
				for kind := -300; kind <= 600; kind++ {
					for _, code := range []int{math.MinInt, -1, 0, 1, 8, 255, 256, 1 << 32, math.MaxInt} {
						s.Type, s.Code = kind, code
						if kind == types[side] && code == 0 {
							wantGo(t, f, side, s, 50, want)
						} else {
							wantNoGo(t, f, side, s, 50, api.ErrState)
						}
					}
				}
				s.Type, s.Code = types[side], 0
				s.Flags, s.Win, s.Err, s.Data = api.RST, -1, true, make([]byte, 70000)
				wantGo(t, f, side, s, 50, want)
				s.Type = types[1-side]
				wantNoGo(t, f, side, s, 50, api.ErrState)
			}
		}
	}
}

// P16.2: flows, sides and times that may not be, also of a segment that the flow would not take.
func TestGoArguments(t *testing.T) {
	for _, w := range rightWays() {
		for side := range 2 {
			for _, s := range []api.Seg{onward(w, side), onward(w, 1-side), {}, turned(onward(w, side), func(s S) { s.Win, s.Type = -1, 77 })} {
				for _, f := range wrongFlows(w) {
					wantNoGo(t, f, side, s, 50, api.ErrArg)
					wantNoGo(t, f, side, turned(s, func(s S) { s.Tuple = f.Tuple }), 50, api.ErrArg)
				}
				for _, now := range wrongTimes() {
					wantNoGo(t, flowOf(w), side, s, now, api.ErrArg)
				}
			}
		}
		for _, side := range []int{math.MinInt, -2, -1, 2, 3, 1 << 32, 1<<32 + 1, math.MaxInt} {
			for _, now := range rightTimes() {
				wantNoGo(t, flowOf(w), side, onward(w, 0), now, api.ErrArg)
				wantNoGo(t, flowOf(w), side, onward(w, 1), now, api.ErrArg)
				wantNoGo(t, flowOf(w), side, api.Seg{}, now, api.ErrArg)
			}
		}
	}
}

// P16.2: a segment of another way, of the other side's, or of none; that is told ahead of what no stream may have.
func TestGoOtherWay(t *testing.T) {
	for _, w := range rightWays() {
		for side := range 2 {
			s := onward(w, side)
			ways := append(otherWays(s.Tuple), wrongWays(s.Tuple)...)
			for _, x := range ways {
				s.Tuple = x
				wantNoGo(t, flowOf(w), side, s, 50, api.ErrState)
				wantNoGo(t, flowOf(w), side, turned(s, func(s S) { s.Win, s.Data = 65536, make([]byte, 65536) }), 50, api.ErrState)
			}
			wantNoGo(t, flowOf(w), side, onward(w, 1-side), 50, api.ErrState)
		}
	}
}

// P16.2: of a way that is its own reverse a segment may be of either side.
func TestGoOwnReverse(t *testing.T) {
	for _, w := range rightWays() {
		f := flowOf(round(w))
		for side := range 2 {
			s := turned(onward(w, side), func(s S) { s.Tuple = round(w) })
			got, e := flow.Go(f, side, s, 50)
			if e != api.OK || got.Both != (side == 1) || got.Ends != 50+lifeOf(w, side == 1) || got.Tuple != round(w) {
				t.Errorf("Go(%+v, %d, %+v, 50): %+v, %d", f, side, s, got, e)
			}
		}
	}
}

// P16.2: layer 15's errors, in every state, with all flags.
func TestGoStream(t *testing.T) {
	took, refused := 0, 0
	for _, w := range []api.Tuple{way4(api.TCP), way6(api.TCP)} {
		for state := 1; state <= 6; state++ {
			f := turned(flowOf(w), func(f F) { f.Conn = stream(state) })
			for side := range 2 {
				for flags := range 64 {
					for _, n := range []int{0, 1, 1000, 65535, 65536} {
						for _, win := range []int{-1, 0, 65535, 65536} {
							s := turned(onward(w, side), func(s S) { s.Flags, s.Win, s.Data = flags, win, make([]byte, n) })
							c, e := tcp.Step(f.Conn, side, tcp.Segment{Flags: flags, Win: win, Size: n, Seq: s.Seq, Ack: s.Ack})
							if e != api.OK {
								wantNoGo(t, f, side, s, 50, e)
								refused++
								continue
							}
							wantGo(t, f, side, s, 50, turned(f, func(f F) { f.Conn, f.Ends, f.Both = c, 50+tcp.Life(c), side == 1 }))
							took++
						}
					}
				}
			}
		}
	}
	if took < 1000 || refused < 1000 {
		t.Error("too few to tell:", took, refused)
	}
}
