package expect_test

import (
	"math"
	"testing"

	"stockade/api"
	"stockade/expect"
)

func a4(a, b, c, d int) api.Addr {
	return api.Addr{Fam: 4, Lo: uint64(a)<<24 | uint64(b)<<16 | uint64(c)<<8 | uint64(d)}
}

func a6(hi, lo uint64) api.Addr { return api.Addr{Fam: 6, Hi: hi, Lo: lo} }

// way4 and way6 are ways that may be, each part unlike all others.
func way4(proto int) api.Tuple {
	return api.Tuple{Fam: 4, Proto: proto, Src: a4(10, 0, 0, 2), Dst: a4(10, 0, 0, 1), Sport: 20, Dport: 2000}
}

func way6(proto int) api.Tuple {
	return api.Tuple{Fam: 6, Proto: proto, Src: a6(0x20010db8<<32, 1), Dst: a6(0, 2), Sport: 53, Dport: 54}
}

// rightWays are one way of each protocol of each family.
func rightWays() []api.Tuple {
	return []api.Tuple{way4(api.TCP), way4(api.UDP), way4(api.ICMP), way6(api.TCP), way6(api.UDP), way6(api.ICMP6)}
}

// master is the way of a flow that asks for wants: each number's is another one.
func master(n int) api.Tuple {
	w := []api.Tuple{way4(api.TCP), way6(api.UDP)}[n%2]
	w.Sport, w.Dport = 30000+n, 21
	return w
}

// back is a way's reverse, written out.
func back(w api.Tuple) api.Tuple {
	return api.Tuple{Fam: w.Fam, Proto: w.Proto, Src: w.Dst, Dst: w.Src, Sport: w.Dport, Dport: w.Sport}
}

type (
	T = *api.Tuple
	W = *api.Want
)

func turned[X any](x X, turn func(x *X)) X {
	turn(&x)
	return x
}

// anyPort is a way from any port.
func anyPort(w api.Tuple) api.Tuple {
	w.Sport = -1
	return w
}

func fromPort(w api.Tuple, port int) api.Tuple {
	w.Sport = port
	return w
}

// wanted is a want for a way, of the Master 1.
func wanted(w api.Tuple) api.Want {
	return api.Want{Tuple: w, Master: master(1), Ends: 1000, Help: api.TFTP}
}

func by(w api.Want, m api.Tuple) api.Want {
	w.Master = m
	return w
}

func ending(w api.Want, ends int) api.Want {
	w.Ends = ends
	return w
}

// wrongNumbers are neither ports nor -1.
func wrongNumbers() []int {
	return []int{math.MinInt, -65536, -2, 65536, 65537, 1 << 32, 1<<32 - 1, math.MaxInt}
}

// wrongTimes are none that an Ends may be.
func wrongTimes() []int {
	return []int{math.MinInt, -api.MaxTime, -2, -1, api.MaxTime + 1, api.MaxTime + 2, math.MaxInt}
}

// wrongHelps are no numbers of helpers.
func wrongHelps() []int {
	return []int{math.MinInt, -4, -2, -1, 4, 5, 256, 1 << 32, 1<<32 + 1, math.MaxInt}
}

// wrongWays are ways that may not be, each wrong in one part, but not those with a Sport of -1.
func wrongWays(w api.Tuple) []api.Tuple {
	ways := []api.Tuple{{}, {Sport: -1}}
	wrong := func(turn func(w T)) { ways = append(ways, turned(w, turn)) }
	for _, n := range wrongNumbers() {
		wrong(func(w T) { w.Sport = n })
		wrong(func(w T) { w.Dport = n })
	}
	wrong(func(w T) { w.Dport = -1 })
	wrong(func(w T) { w.Dport, w.Sport = -1, -1 })
	for _, n := range []int{math.MinInt, -6, -1, 0, 2, 7, 16, 59, 262, 1<<32 + 6, math.MaxInt} {
		wrong(func(w T) { w.Proto = n })
	}
	for _, n := range []int{math.MinInt, -4, 0, 5, 10 - w.Fam, math.MaxInt} {
		wrong(func(w T) { w.Fam = n })
		wrong(func(w T) { w.Src.Fam = n })
		wrong(func(w T) { w.Dst.Fam = n })
	}
	wrong(func(w T) { w.Src = api.Addr{Fam: 4, Hi: 1, Lo: 1} })
	wrong(func(w T) { w.Dst = api.Addr{Fam: 4, Lo: 1 << 32} })
	wrong(func(w T) { w.Proto = api.ICMP + api.ICMP6 - icmpOf(w.Fam) })
	return ways
}

func icmpOf(fam int) int {
	if fam == 4 {
		return api.ICMP
	}
	return api.ICMP6
}

// otherWays are ways that may be, each unlike w in one part that is not its Sport, and w's reverse among them.
func otherWays(w api.Tuple) []api.Tuple {
	ways := []api.Tuple{back(w)}
	other := func(turn func(w T)) { ways = append(ways, turned(w, turn)) }
	other(func(w T) { w.Src.Lo ^= 64 })
	other(func(w T) { w.Dst.Lo ^= 64 })
	other(func(w T) { w.Dport-- })
	other(func(w T) { w.Dport++ })
	other(func(w T) { w.Src, w.Dst = w.Dst, w.Src })
	for _, proto := range []int{api.TCP, api.UDP, icmpOf(w.Fam)} {
		if proto != w.Proto {
			other(func(w T) { w.Proto = proto })
		}
	}
	if w.Fam == 6 {
		other(func(w T) { w.Src.Hi++ })
		other(func(w T) { w.Dst.Hi++ })
	}
	return ways
}

// wrongWants are wants that may not be, each wrong in one part.
func wrongWants(w api.Tuple) []api.Want {
	wants := []api.Want{{}}
	wrong := func(turn func(w W)) {
		wants = append(wants, turned(wanted(w), turn), turned(wanted(anyPort(w)), turn))
	}
	for _, x := range wrongWays(w) {
		wrong(func(w W) { w.Tuple = x })
		wrong(func(w W) { w.Master = x })
	}
	wrong(func(w W) { w.Master.Sport = -1 })
	wrong(func(w W) { w.Tuple.Dport = -1 })
	for _, n := range wrongTimes() {
		wrong(func(w W) { w.Ends = n })
	}
	for _, n := range wrongHelps() {
		wrong(func(w W) { w.Help = n })
	}
	return wants
}

func wantRight(t testing.TB, w api.Want, want bool) {
	t.Helper()
	if got := expect.Right(w); got != want {
		t.Errorf("Right(%+v): %v", w, got)
	}
}

func wantWaits(t testing.TB, w api.Want, x api.Tuple, want bool) {
	t.Helper()
	if got := expect.Waits(w, x); got != want {
		t.Errorf("Waits(%+v, %+v): %v", w, x, got)
	}
}

// P17.1: wants of each protocol and family, of any port and of one, of Masters of each, with each helper, at all times.
func TestRight(t *testing.T) {
	for _, w := range rightWays() {
		for _, m := range rightWays() {
			for _, port := range []int{-1, 0, 1, 20, 65534, 65535} {
				for help := range 4 {
					for _, ends := range []int{0, 1, 1000, 1 << 32, api.MaxTime - 1, api.MaxTime} {
						wantRight(t, api.Want{Tuple: fromPort(w, port), Master: m, Ends: ends, Help: help}, true)
					}
				}
			}
			wantRight(t, by(wanted(w), w), true)
			wantRight(t, by(wanted(w), back(w)), true)
		}
		for _, port := range []int{0, 65535} {
			wantRight(t, turned(wanted(w), func(w W) { w.Tuple.Dport = port }), true)
			wantRight(t, turned(wanted(w), func(w W) { w.Master.Sport = port }), true)
			wantRight(t, turned(wanted(w), func(w W) { w.Master.Dport = port }), true)
		}
	}
}

// P17.1: wants that are wrong in one part.
func TestRightWrong(t *testing.T) {
	for _, w := range rightWays() {
		for _, x := range wrongWants(w) {
			wantRight(t, x, false)
		}
		for _, port := range wrongNumbers() {
			wantRight(t, wanted(fromPort(w, port)), false)
			wantRight(t, by(wanted(w), fromPort(w, port)), false)
		}
		wantRight(t, by(wanted(w), anyPort(w)), false)
		wantRight(t, by(wanted(anyPort(w)), anyPort(w)), false)
	}
}

// P17.1: a want of one port waits for its way alone, one of any port for all ways that are unlike in the Sport alone.
func TestWaits(t *testing.T) {
	for _, w := range rightWays() {
		one, all := wanted(w), wanted(anyPort(w))
		wantWaits(t, one, w, true)
		wantWaits(t, all, w, true)
		for _, port := range []int{0, 1, w.Sport - 1, w.Sport + 1, w.Dport, 65534, 65535} {
			x := fromPort(w, port)
			wantWaits(t, one, x, false)
			wantWaits(t, all, x, true)
			wantWaits(t, wanted(x), x, true)
			wantWaits(t, wanted(x), w, false)
		}
		for _, x := range otherWays(w) {
			wantWaits(t, one, x, false)
			wantWaits(t, all, x, false)
			wantWaits(t, wanted(x), w, false)
			wantWaits(t, wanted(anyPort(x)), w, false)
			wantWaits(t, by(one, x), x, false)
		}
		wantWaits(t, by(wanted(back(w)), w), w, false)
	}
}

// P17.1: what a want waits for hangs on its way alone, also at the time 0, as the clock is a table's.
func TestWaitsWhatever(t *testing.T) {
	for _, w := range rightWays() {
		for _, x := range []api.Want{wanted(w), wanted(anyPort(w))} {
			for _, ends := range []int{0, 1, api.MaxTime} {
				for help := range 4 {
					for _, m := range append(rightWays(), back(w)) {
						x.Ends, x.Help, x.Master = ends, help, m
						wantWaits(t, x, w, true)
						wantWaits(t, x, back(w), false)
					}
				}
			}
		}
	}
}

// P17.1: wants and ways that may not be, each wrong in one part: a way from any port is none of a packet.
func TestWaitsWrong(t *testing.T) {
	for _, w := range rightWays() {
		for _, x := range wrongWants(w) {
			wantWaits(t, x, w, false)
			wantWaits(t, x, x.Tuple, false)
			wantWaits(t, x, fromPort(x.Tuple, 0), false)
		}
		for _, x := range append(wrongWays(w), anyPort(w)) {
			wantWaits(t, wanted(w), x, false)
			wantWaits(t, wanted(anyPort(w)), x, false)
			wantWaits(t, wanted(x), x, false)
			wantWaits(t, wanted(anyPort(x)), x, false)
		}
	}
}

// The chapter's example, and P17.5.
func TestExample(t *testing.T) {
	x := made(t, 4, 4)
	asks := api.Tuple{Fam: 4, Proto: api.TCP, Src: a4(10, 0, 0, 1), Dst: a4(10, 0, 0, 2), Sport: 1024, Dport: 21}
	w := api.Want{Tuple: api.Tuple{Fam: 4, Proto: api.TCP, Src: a4(10, 0, 0, 2), Dst: a4(10, 0, 0, 1), Sport: -1, Dport: 2000}, Master: asks, Ends: 30, Help: 0}
	add(t, x, w)
	way := fromPort(w.Tuple, 20)
	wantWaits(t, w, way, true)
	take(t, x, way, w)
	untaken(t, x, way)
	has(t, x, 0)
}

// R3: the same call has the same answer, whatever was asked between.
func TestSameAnswers(t *testing.T) {
	for _, w := range rightWays() {
		one, all := wanted(w), wanted(anyPort(w))
		for range 3 {
			wantRight(t, one, true)
			wantRight(t, api.Want{}, false)
			wantWaits(t, one, w, true)
			wantWaits(t, all, w, true)
			wantWaits(t, one, back(w), false)
			if one != wanted(w) || all.Tuple.Sport != -1 {
				t.Errorf("the wants were turned: %+v, %+v", one, all)
			}
		}
	}
}
