package flow_test

import (
	"bytes"
	"math"
	"testing"

	"stockade/api"
	"stockade/flow"
	"stockade/tcp"
)

// latest is the last time at which a packet may come, as the chapter names it.
const latest = api.MaxTime - 3600

func a4(a, b, c, d int) api.Addr {
	return api.Addr{Fam: 4, Lo: uint64(a)<<24 | uint64(b)<<16 | uint64(c)<<8 | uint64(d)}
}

func a6(hi, lo uint64) api.Addr { return api.Addr{Fam: 6, Hi: hi, Lo: lo} }

// way4 and way6 are ways that may be, each part unlike all others.
func way4(proto int) api.Tuple {
	return api.Tuple{Fam: 4, Proto: proto, Src: a4(10, 0, 0, 1), Dst: a4(10, 0, 0, 2), Sport: 1024, Dport: 80}
}

func way6(proto int) api.Tuple {
	return api.Tuple{Fam: 6, Proto: proto, Src: a6(0x20010db8<<32, 1), Dst: a6(0, 2), Sport: 53, Dport: 54}
}

// rightWays are one way of each protocol of each family.
func rightWays() []api.Tuple {
	return []api.Tuple{way4(api.TCP), way4(api.UDP), way4(api.ICMP), way6(api.TCP), way6(api.UDP), way6(api.ICMP6)}
}

// back is a way's reverse, written out.
func back(w api.Tuple) api.Tuple {
	return api.Tuple{Fam: w.Fam, Proto: w.Proto, Src: w.Dst, Dst: w.Src, Sport: w.Dport, Dport: w.Sport}
}

// round is a way that is its own reverse.
func round(w api.Tuple) api.Tuple {
	w.Dst, w.Dport = w.Src, w.Sport
	return w
}

type (
	W = *api.Tuple
	F = *api.Flow
	S = *api.Seg
	C = *api.Conn
)

func turned[T any](x T, turn func(x *T)) T {
	turn(&x)
	return x
}

// wrongTimes are none at which a packet may come.
func wrongTimes() []int {
	return []int{math.MinInt, -api.MaxTime, -2, -1, latest + 1, latest + 3600, api.MaxTime + 1, math.MaxInt}
}

func rightTimes() []int {
	return []int{0, 1, 100, 1 << 40, latest - 1, latest}
}

// wrongHelps are no numbers of helpers.
func wrongHelps() []int {
	return []int{math.MinInt, -4, -2, -1, 4, 5, 256, 1 << 32, 1<<32 + 1, math.MaxInt}
}

// wrongWays are ways that may not be, each wrong in one part.
func wrongWays(w api.Tuple) []api.Tuple {
	ways := []api.Tuple{{}}
	wrong := func(turn func(w W)) { ways = append(ways, turned(w, turn)) }
	for _, n := range []int{math.MinInt, -1, 65536, 1 << 32, math.MaxInt} {
		wrong(func(w W) { w.Sport = n })
		wrong(func(w W) { w.Dport = n })
	}
	for _, n := range []int{math.MinInt, -6, -1, 0, 2, 7, 16, 59, 262, 1<<32 + 6, math.MaxInt} {
		wrong(func(w W) { w.Proto = n })
	}
	for _, n := range []int{math.MinInt, -4, 0, 5, 10 - w.Fam, math.MaxInt} {
		wrong(func(w W) { w.Fam = n })
		wrong(func(w W) { w.Src.Fam = n })
		wrong(func(w W) { w.Dst.Fam = n })
	}
	wrong(func(w W) { w.Src = api.Addr{Fam: 4, Hi: 1, Lo: 1} })
	wrong(func(w W) { w.Dst = api.Addr{Fam: 4, Lo: 1 << 32} })
	wrong(func(w W) { w.Proto = api.ICMP + api.ICMP6 - icmpOf(w.Fam) })
	return ways
}

func icmpOf(fam int) int {
	if fam == 4 {
		return api.ICMP
	}
	return api.ICMP6
}

func isIcmp(w api.Tuple) bool { return w.Proto == api.ICMP || w.Proto == api.ICMP6 }

// otherWays are ways that may be, each unlike w in one part, and w's reverse among them.
func otherWays(w api.Tuple) []api.Tuple {
	ways := []api.Tuple{back(w)}
	other := func(turn func(w W)) { ways = append(ways, turned(w, turn)) }
	other(func(w W) { w.Src.Lo ^= 64 })
	other(func(w W) { w.Dst.Lo ^= 64 })
	other(func(w W) { w.Sport++ })
	other(func(w W) { w.Dport-- })
	other(func(w W) { w.Src, w.Dst = w.Dst, w.Src })
	other(func(w W) { w.Sport, w.Dport = w.Dport, w.Sport })
	for _, proto := range []int{api.TCP, api.UDP, icmpOf(w.Fam)} {
		if proto != w.Proto {
			other(func(w W) { w.Proto = proto })
		}
	}
	if w.Fam == 6 {
		other(func(w W) { w.Src.Hi++ })
		other(func(w W) { w.Dst.Hi++ })
	}
	return ways
}

// stream is a stream of a state, of which 100 and 500 come next, and each side may send 1000.
func stream(state int) api.Conn {
	c := api.Conn{State: state, Next: [2]uint32{100, 500}, Edge: [2]uint32{1100, 1500}, Known: [2]bool{true, true}}
	switch state {
	case api.StSyn:
		c.Next[1], c.Edge, c.Known[1] = 0, [2]uint32{100, 1000}, false
	case api.StFin:
		c.Ended[1] = true
	case api.StBoth:
		c.Ended = [2]bool{true, true}
	}
	return c
}

// flowOf is a flow of a way that may be.
func flowOf(w api.Tuple) api.Flow {
	f := api.Flow{Tuple: w, Ends: 1000, Help: api.TFTP}
	if w.Proto == api.TCP {
		f.Conn = stream(api.StOpen)
	}
	return f
}

// wrongFlows are flows that may not be, each wrong in one part.
func wrongFlows(w api.Tuple) []api.Flow {
	flows := []api.Flow{{}}
	wrong := func(turn func(f F)) { flows = append(flows, turned(flowOf(w), turn)) }
	for _, x := range wrongWays(w) {
		wrong(func(f F) { f.Tuple = x })
	}
	for _, n := range []int{math.MinInt, -api.MaxTime, -1, api.MaxTime + 1, math.MaxInt} {
		wrong(func(f F) { f.Ends = n })
	}
	for _, n := range wrongHelps() {
		wrong(func(f F) { f.Help = n })
	}
	for _, c := range wrongStreams(w) {
		wrong(func(f F) { f.Conn = c })
	}
	return flows
}

// wrongStreams are streams that may not be those of a way's flow: of TCP ones that may not be, else all but the zero one.
func wrongStreams(w api.Tuple) []api.Conn {
	if w.Proto == api.TCP {
		return []api.Conn{
			{}, {State: api.StOpen},
			turned(stream(api.StOpen), func(c C) { c.State = -1 }),
			turned(stream(api.StOpen), func(c C) { c.State = api.StNone }),
			turned(stream(api.StOpen), func(c C) { c.State = 7 }),
			turned(stream(api.StOpen), func(c C) { c.Known[0] = false }),
			turned(stream(api.StOpen), func(c C) { c.Known[1] = false }),
			turned(stream(api.StOpen), func(c C) { c.Ended[0] = true }),
			turned(stream(api.StSyn), func(c C) { c.Known[1] = true }),
			turned(stream(api.StFin), func(c C) { c.Ended[1] = false }),
			turned(stream(api.StBoth), func(c C) { c.Ended[1] = false }),
		}
	}
	streams := []api.Conn{
		{State: 1}, {State: -1}, {State: 1 << 32}, {Next: [2]uint32{1, 0}}, {Next: [2]uint32{0, 1}}, {Edge: [2]uint32{1, 0}}, {Edge: [2]uint32{0, 1 << 31}},
		{Known: [2]bool{true, false}}, {Known: [2]bool{false, true}}, {Ended: [2]bool{true, false}}, {Ended: [2]bool{false, true}},
	}
	for state := 1; state <= 6; state++ {
		streams = append(streams, stream(state))
	}
	return streams
}

// first is the segment that begins a flow of a way; answer is the other side's first one behind it.
func first(w api.Tuple) api.Seg {
	s := api.Seg{Tuple: w, Data: []byte{1, 2, 3}}
	switch {
	case w.Proto == api.TCP:
		s.Flags, s.Seq, s.Win, s.Data = api.SYN, 99, 1000, nil
	case w.Proto == api.ICMP:
		s.Type = 8
	case w.Proto == api.ICMP6:
		s.Type = 128
	}
	return s
}

func answer(w api.Tuple) api.Seg {
	s := api.Seg{Tuple: back(w), Data: []byte{4, 5}}
	switch {
	case w.Proto == api.TCP:
		s.Flags, s.Seq, s.Ack, s.Win, s.Data = api.SYN|api.ACK, 499, 100, 1000, nil
	case w.Proto == api.ICMP6:
		s.Type = 129
	}
	return s
}

// onward is a segment of a side that the flow flowOf takes, and turns nothing of a stream but for how far the other side may go.
func onward(w api.Tuple, side int) api.Seg {
	s := first(w)
	if side == 1 {
		s = answer(w)
	}
	if w.Proto == api.TCP {
		c := stream(api.StOpen)
		s.Flags, s.Seq, s.Ack, s.Win = api.ACK, c.Next[side], c.Next[1-side], 2000
	}
	return s
}

func wantRight(t testing.TB, f api.Flow, want bool) {
	t.Helper()
	if got := flow.Right(f); got != want {
		t.Errorf("Right(%+v): %v", f, got)
	}
}

func wantStart(t testing.TB, s api.Seg, now, help int, want api.Flow) {
	t.Helper()
	got, e := flow.Start(s, now, help)
	if got != want || e != api.OK {
		t.Errorf("Start(%+v, %d, %d): %+v, %d, want %+v", s, now, help, got, e, want)
	}
	if !flow.Right(got) {
		t.Errorf("Start(%+v, %d, %d): %+v, which may not be", s, now, help, got)
	}
}

func wantNoStart(t testing.TB, s api.Seg, now, help int, want api.Errno) {
	t.Helper()
	if got, e := flow.Start(s, now, help); got != (api.Flow{}) || e != want {
		t.Errorf("Start(%+v, %d, %d): %+v, %d, want error %d", s, now, help, got, e, want)
	}
}

// P16.1: flows of each protocol and family, in every state, with each helper, whether packets came both ways or not.
func TestRight(t *testing.T) {
	for _, w := range rightWays() {
		for help := range 4 {
			for _, both := range []bool{false, true} {
				f := turned(flowOf(w), func(f F) { f.Help, f.Both = help, both })
				wantRight(t, f, true)
				wantRight(t, turned(f, func(f F) { f.Tuple = back(w) }), true)
				wantRight(t, turned(f, func(f F) { f.Tuple = round(w) }), true)
				for state := 1; state <= 6; state++ {
					wantRight(t, turned(f, func(f F) { f.Conn = stream(state) }), w.Proto == api.TCP)
				}
				for _, ends := range []int{0, 1, 3600, 1 << 32, latest + 1, api.MaxTime - 1, api.MaxTime} {
					wantRight(t, turned(f, func(f F) { f.Ends = ends }), true)
				}
			}
		}
	}
}

// P16.1: flows that are wrong in one part.
func TestRightWrong(t *testing.T) {
	for _, w := range rightWays() {
		for _, f := range wrongFlows(w) {
			wantRight(t, f, false)
			wantRight(t, turned(f, func(f F) { f.Both = true }), false)
		}
		wantRight(t, turned(flowOf(w), func(f F) { f.Conn = api.Conn{} }), w.Proto != api.TCP)
	}
}

// P16.1, P16.7: a flow of each protocol and family, at all times, with each helper; its reverse begins one of its own.
func TestStart(t *testing.T) {
	life := map[int]int{api.TCP: 30, api.UDP: 30, api.ICMP: 10, api.ICMP6: 10}
	for _, w := range rightWays() {
		for _, x := range []api.Tuple{w, back(w), round(w)} {
			for _, now := range rightTimes() {
				for help := range 4 {
					want := api.Flow{Tuple: x, Ends: now + life[x.Proto], Help: help}
					if x.Proto == api.TCP {
						want.Conn = api.Conn{State: api.StSyn, Next: [2]uint32{100, 0}, Edge: [2]uint32{100, 1000}, Known: [2]bool{true, false}}
					}
					wantStart(t, first(x), now, help, want)
				}
			}
		}
	}
}

// P16.1: ways, times and helpers that may not be, also of a segment that begins no flow, and of one that no stream may have.
func TestStartArguments(t *testing.T) {
	for _, w := range rightWays() {
		for _, s := range []api.Seg{first(w), answer(w), turned(first(w), func(s S) { s.Flags, s.Type = 0, 77 }), turned(first(w), func(s S) { s.Win = -1 })} {
			for _, x := range wrongWays(w) {
				wantNoStart(t, turned(s, func(s S) { s.Tuple = x }), 100, 0, api.ErrArg)
			}
			for _, now := range wrongTimes() {
				wantNoStart(t, s, now, 0, api.ErrArg)
				wantNoStart(t, s, now, 3, api.ErrArg)
			}
			for _, help := range wrongHelps() {
				for _, now := range rightTimes() {
					wantNoStart(t, s, now, help, api.ErrArg)
				}
			}
		}
	}
}

// P16.1: which flags begin a stream, and with how many bytes; windows and bytes that no stream may have are told of first.
func TestStartStream(t *testing.T) {
	for _, w := range []api.Tuple{way4(api.TCP), way6(api.TCP)} {
		for flags := range 256 {
			s := turned(first(w), func(s S) { s.Flags = flags })
			if flags&(api.FIN|api.SYN|api.RST|api.ACK) == api.SYN {
				want, _ := flow.Start(first(w), 7, 2)
				wantStart(t, s, 7, 2, want)
			} else {
				wantNoStart(t, s, 7, 2, api.ErrState)
			}
			for _, n := range []int{1, 2, 1000, 65535} {
				wantNoStart(t, turned(s, func(s S) { s.Data = make([]byte, n) }), 7, 2, api.ErrState)
			}
			for _, n := range []int{65536, 65537, 1 << 17} {
				wantNoStart(t, turned(s, func(s S) { s.Data = make([]byte, n) }), 7, 2, api.ErrArg)
			}
			for _, win := range []int{math.MinInt, -1, 65536, 1 << 32, math.MaxInt} {
				wantNoStart(t, turned(s, func(s S) { s.Win = win }), 7, 2, api.ErrArg)
			}
		}
	}
}

// P16.1: the stream is that of the segment's own numbers; those of other protocols do not count.
func TestStartNumbers(t *testing.T) {
	for _, seq := range []uint32{0, 1, 1 << 31, 1<<32 - 1} {
		for _, win := range []int{0, 1, 65535} {
			s := turned(first(way4(api.TCP)), func(s S) { s.Seq, s.Win = seq, win })
			c, e := tcp.Begin(api.SYN, seq, win, 0)
			if e != api.OK {
				t.Fatal(seq, win, e)
			}
			want := api.Flow{Tuple: s.Tuple, Conn: c, Ends: 130, Help: 1}
			wantStart(t, s, 100, 1, want)
			s.Ack, s.Type, s.Code, s.Err, s.Inner = 5, 8, 9, true, way6(api.UDP)
			wantStart(t, s, 100, 1, want)
		}
	}
}

// P16.1: any segment of UDP begins a flow.
func TestStartUDP(t *testing.T) {
	for _, w := range []api.Tuple{way4(api.UDP), way6(api.UDP), turned(way4(api.UDP), func(w W) { w.Sport, w.Dport = 0, 65535 })} {
		want := api.Flow{Tuple: w, Ends: 130}
		for _, s := range []api.Seg{
			{}, {Flags: api.RST}, {Flags: -1}, {Win: -1}, {Win: 65536}, {Seq: 5, Ack: 6}, {Type: 3}, {Code: 1}, {Type: -1, Code: 256},
			{Data: make([]byte, 65536)}, {Err: true, Inner: way4(api.TCP)},
		} {
			s.Tuple = w
			wantStart(t, s, 100, 0, want)
		}
	}
}

// P16.1: of an ICMP an echo's question alone begins a flow, the one of its own family.
func TestStartEcho(t *testing.T) {
	for _, w := range []api.Tuple{way4(api.ICMP), way6(api.ICMP6)} {
		question := map[int]int{4: 8, 6: 128}[w.Fam]
		want := api.Flow{Tuple: w, Ends: 110, Help: 3}
		for kind := -300; kind <= 600; kind++ {
			for _, code := range []int{math.MinInt, -1, 0, 1, 2, 8, 128, 255, 256, 1 << 32, math.MaxInt} {
				s := api.Seg{Tuple: w, Type: kind, Code: code}
				if kind == question && code == 0 {
					wantStart(t, s, 100, 3, want)
				} else {
					wantNoStart(t, s, 100, 3, api.ErrState)
				}
			}
		}
		for _, s := range []api.Seg{{Flags: api.SYN}, {Flags: -1, Win: 65536}, {Data: make([]byte, 70000)}, {Seq: 1, Ack: 2}, {Err: true, Inner: w}} {
			s.Tuple, s.Type = w, question
			wantStart(t, s, 100, 3, want)
			s.Type = 1<<32 + question
			wantNoStart(t, s, 100, 3, api.ErrState)
		}
	}
}

// The chapter's example.
func TestExample(t *testing.T) {
	w := api.Tuple{Fam: 4, Proto: api.UDP, Src: a4(10, 0, 0, 1), Dst: a4(10, 0, 0, 2), Sport: 53, Dport: 1024}
	f := api.Flow{Tuple: w, Ends: 130}
	wantStart(t, api.Seg{Tuple: w}, 100, 0, f)
	wantGo(t, f, 1, api.Seg{Tuple: back(w)}, 110, api.Flow{Tuple: w, Ends: 290, Both: true})
}

// R3, R4: the same call has the same answer, whatever was asked between, and what was handed in stays.
func TestSameAnswers(t *testing.T) {
	for _, w := range rightWays() {
		data := []byte{1, 2, 3, 4}
		f, s := flowOf(w), onward(w, 0)
		s.Data = data[:2]
		went, e := flow.Go(f, 0, s, 50)
		began, b := flow.Start(first(w), 50, 1)
		for range 3 {
			flow.Start(answer(w), 7, 1)
			flow.Go(f, 1, onward(w, 1), 90)
			again, g := flow.Go(f, 0, s, 50)
			if again != went || g != e || e != api.OK || f != flowOf(w) {
				t.Errorf("Go of %+v: %+v, %d, and again %+v, %d", w, went, e, again, g)
			}
			if again, g := flow.Start(first(w), 50, 1); again != began || g != b || b != api.OK {
				t.Errorf("Start of %+v: %+v, %d, and again %+v, %d", w, began, b, again, g)
			}
		}
		if !bytes.Equal(data, []byte{1, 2, 3, 4}) {
			t.Errorf("%+v: the data were turned: %v", w, data)
		}
	}
}
