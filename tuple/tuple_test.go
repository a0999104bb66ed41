package tuple_test

import (
	"math"
	"testing"

	"stockade/api"
	"stockade/first"
	"stockade/tuple"
)

const most = math.MaxUint64

func a4(a, b, c, d int) api.Addr {
	return api.Addr{Fam: 4, Lo: uint64(a)<<24 | uint64(b)<<16 | uint64(c)<<8 | uint64(d)}
}

func a6(hi, lo uint64) api.Addr { return api.Addr{Fam: 6, Hi: hi, Lo: lo} }

// way4 and way6 are ways that may be, each part unlike all others.
func way4(proto int) api.Tuple {
	return api.Tuple{Fam: 4, Proto: proto, Src: a4(10, 0, 0, 1), Dst: a4(10, 0, 0, 2), Sport: 1024, Dport: 80}
}

func way6(proto int) api.Tuple {
	return api.Tuple{Fam: 6, Proto: proto, Src: a6(0x20010db800000000, 1), Dst: a6(0, 2), Sport: 53, Dport: 54}
}

// rightWays are one way of each protocol of each family.
func rightWays() []api.Tuple {
	return []api.Tuple{way4(api.TCP), way4(api.UDP), way4(api.ICMP), way6(api.TCP), way6(api.UDP), way6(api.ICMP6)}
}

type W = *api.Tuple

func turned(w api.Tuple, turn func(w W)) api.Tuple {
	turn(&w)
	return w
}

func wantRight(t testing.TB, name string, w api.Tuple, want bool) {
	t.Helper()
	if got := tuple.Right(w); got != want {
		t.Errorf("%s: Right(%+v): %v", name, w, got)
	}
	if got := tuple.Right(tuple.Reverse(w)); got != want {
		t.Errorf("%s: Right of the reverse of %+v: %v", name, w, got)
	}
	if got := tuple.Text(w) != ""; got != want {
		t.Errorf("%s: Text(%+v): %q", name, w, tuple.Text(w))
	}
}

// P14.1: a way of each protocol of each family may be, and none of another one.
func TestRightProtocols(t *testing.T) {
	for _, w := range rightWays() {
		wantRight(t, "a right way", w, true)
	}
	for proto := -300; proto <= 600; proto++ {
		both := proto == api.TCP || proto == api.UDP
		wantRight(t, "of family 4", way4(proto), both || proto == 1)
		wantRight(t, "of family 6", way6(proto), both || proto == 58)
	}
	for _, proto := range []int{math.MinInt, math.MaxInt, 1 << 32, 1<<32 + 6, 1<<8 + 17, -6} {
		wantRight(t, "far off", way4(proto), false)
		wantRight(t, "far off", way6(proto), false)
	}
}

// P14.1: ports are from 0 to 65535, also of an ICMP.
func TestRightPorts(t *testing.T) {
	for _, w := range rightWays() {
		for _, port := range []int{math.MinInt, math.MinInt32, -65536, -2, -1, 0, 1, 1023, 65534, 65535, 65536, 65537, 1 << 31, 1 << 32, math.MaxInt} {
			may := port >= 0 && port <= 65535
			wantRight(t, "Sport", turned(w, func(w W) { w.Sport = port }), may)
			wantRight(t, "Dport", turned(w, func(w W) { w.Dport = port }), may)
			wantRight(t, "both", turned(w, func(w W) { w.Sport, w.Dport = port, port }), may)
		}
	}
}

// P14.1: the family is 4 or 6, and both addresses are of it, and may be.
func TestRightFamilies(t *testing.T) {
	for _, w := range rightWays() {
		other := api.Addr{Fam: 10 - w.Fam, Lo: 1}
		wantRight(t, "Src of the other family", turned(w, func(w W) { w.Src = other }), false)
		wantRight(t, "Dst of the other family", turned(w, func(w W) { w.Dst = other }), false)
		wantRight(t, "both of the other family", turned(w, func(w W) { w.Src, w.Dst = other, other }), false)
		wantRight(t, "zero Src", turned(w, func(w W) { w.Src = api.Addr{} }), false)
		wantRight(t, "zero Dst", turned(w, func(w W) { w.Dst = api.Addr{} }), false)
		wantRight(t, "Src twice", turned(w, func(w W) { w.Dst = w.Src }), true)
		for _, fam := range []int{math.MinInt, -6, -4, -1, 0, 1, 2, 3, 5, 7, 8, 10, 46, math.MaxInt, 10 - w.Fam} {
			wantRight(t, "another Fam", turned(w, func(w W) { w.Fam = fam }), false)
			wantRight(t, "Src of another Fam", turned(w, func(w W) { w.Src.Fam = fam }), false)
			wantRight(t, "Dst of another Fam", turned(w, func(w W) { w.Dst.Fam = fam }), false)
			if fam != 4 && fam != 6 {
				wantRight(t, "all of another Fam", turned(w, func(w W) { w.Fam, w.Src.Fam, w.Dst.Fam = fam, fam, fam }), false)
			}
		}
	}
	wantRight(t, "zero", api.Tuple{}, false)
	wantRight(t, "zero, of TCP", api.Tuple{Proto: api.TCP}, false)
}

// P14.1: addresses that may not be.
func TestRightAddresses(t *testing.T) {
	for _, c := range []struct {
		a    api.Addr
		want bool
	}{
		{a4(0, 0, 0, 0), true}, {a4(255, 255, 255, 255), true}, {a4(224, 0, 0, 1), true}, {a4(127, 0, 0, 1), true},
		{api.Addr{Fam: 4, Lo: 1 << 32}, false}, {api.Addr{Fam: 4, Lo: most}, false}, {api.Addr{Fam: 4, Hi: 1}, false}, {api.Addr{Fam: 4, Hi: most, Lo: 1}, false},
		{a6(0, 0), true}, {a6(most, most), true}, {a6(1, 0), true}, {a6(0, 1<<32), true}, {a6(0xff<<56, 1), true},
	} {
		w := way4(api.UDP)
		if c.a.Fam == 6 {
			w = way6(api.UDP)
		}
		wantRight(t, "Src", turned(w, func(w W) { w.Src = c.a }), c.want)
		wantRight(t, "Dst", turned(w, func(w W) { w.Dst = c.a }), c.want)
	}
}

// P14.1, P14.5: the reverse of any way, also of one that may not be.
func TestReverse(t *testing.T) {
	for _, c := range []struct{ w, want api.Tuple }{
		{api.Tuple{}, api.Tuple{}},
		{way4(api.TCP), api.Tuple{Fam: 4, Proto: 6, Src: a4(10, 0, 0, 2), Dst: a4(10, 0, 0, 1), Sport: 80, Dport: 1024}},
		{way4(api.ICMP), api.Tuple{Fam: 4, Proto: 1, Src: a4(10, 0, 0, 2), Dst: a4(10, 0, 0, 1), Sport: 80, Dport: 1024}},
		{way6(api.ICMP6), api.Tuple{Fam: 6, Proto: 58, Src: a6(0, 2), Dst: a6(0x20010db800000000, 1), Sport: 54, Dport: 53}},
		{
			api.Tuple{Fam: -3, Proto: 999, Src: api.Addr{Fam: 9, Hi: 8, Lo: 7}, Dst: api.Addr{Fam: -9, Hi: most, Lo: 5}, Sport: math.MinInt, Dport: math.MaxInt},
			api.Tuple{Fam: -3, Proto: 999, Src: api.Addr{Fam: -9, Hi: most, Lo: 5}, Dst: api.Addr{Fam: 9, Hi: 8, Lo: 7}, Sport: math.MaxInt, Dport: math.MinInt},
		},
	} {
		if got := tuple.Reverse(c.w); got != c.want {
			t.Errorf("Reverse(%+v): %+v", c.w, got)
		}
		if got := tuple.Reverse(c.want); got != c.w {
			t.Errorf("Reverse(%+v): %+v", c.want, got)
		}
	}
}

// P14.2: the chapter's examples, each protocol, and the least and the greatest of all.
func TestText(t *testing.T) {
	for _, c := range []struct {
		w    api.Tuple
		want string
	}{
		{way4(api.TCP), "tcp 10.0.0.1:1024 > 10.0.0.2:80"},
		{api.Tuple{Fam: 6, Proto: 17, Src: a6(0x20010db800000000, 1), Dst: a6(0, 2), Sport: 53, Dport: 53}, "udp [2001:db8::1]:53 > [::2]:53"},
		{way4(api.UDP), "udp 10.0.0.1:1024 > 10.0.0.2:80"},
		{way4(api.ICMP), "icmp 10.0.0.1:1024 > 10.0.0.2:80"},
		{way6(api.TCP), "tcp [2001:db8::1]:53 > [::2]:54"},
		{way6(api.ICMP6), "icmp6 [2001:db8::1]:53 > [::2]:54"},
		{api.Tuple{Fam: 4, Proto: 1, Src: a4(0, 0, 0, 0), Dst: a4(255, 255, 255, 255), Dport: 65535}, "icmp 0.0.0.0:0 > 255.255.255.255:65535"},
		{api.Tuple{Fam: 6, Proto: 6, Src: a6(0, 0), Dst: a6(most, most), Sport: 65535}, "tcp [::]:65535 > [ffff:ffff:ffff:ffff:ffff:ffff:ffff:ffff]:0"},
		{api.Tuple{Fam: 6, Proto: 58, Src: a6(0xfe80<<48, 1), Dst: a6(0xff02<<48, 1)}, "icmp6 [fe80::1]:0 > [ff02::1]:0"},
		{api.Tuple{Fam: 6, Proto: 17, Src: a6(0x0001000000000002, 0x3), Dst: a6(0, 0xffff0a000001), Sport: 7, Dport: 9}, "udp [1:0:0:2::3]:7 > [::ffff:a00:1]:9"},
	} {
		if got := tuple.Text(c.w); got != c.want {
			t.Errorf("Text(%+v): %q, want %q", c.w, got, c.want)
		}
	}
}

// P14.2: the text of a way that may not be is empty.
func TestTextOfNone(t *testing.T) {
	for _, turn := range []func(w W){
		func(w W) { *w = api.Tuple{} },
		func(w W) { w.Fam = 5 },
		func(w W) { w.Fam = 10 - w.Fam },
		func(w W) { w.Proto = 0 },
		func(w W) { w.Proto = 2 },
		func(w W) { w.Proto = api.ICMP + api.ICMP6 - icmpOf(w.Fam) },
		func(w W) { w.Src.Fam = 10 - w.Src.Fam },
		func(w W) { w.Dst = api.Addr{} },
		func(w W) { w.Sport = -1 },
		func(w W) { w.Dport = 65536 },
	} {
		for _, w := range rightWays() {
			w := turned(w, turn)
			if got := tuple.Text(w); got != "" {
				t.Errorf("Text(%+v): %q", w, got)
			}
		}
	}
}

func icmpOf(fam int) int {
	if fam == 4 {
		return 1
	}
	return 58
}

// P14.3: a key has the way's ports, or of an ICMP kind and code.
func TestKeyOf(t *testing.T) {
	for _, w := range rightWays() {
		sport, dport := w.Sport, w.Dport
		if w.Proto == 1 || w.Proto == 58 {
			sport, dport = 8, 3
		}
		want := api.Key{From: 5, To: 7, Src: w.Src, Dst: w.Dst, Proto: w.Proto, Sport: sport, Dport: dport}
		got := tuple.KeyOf(w, 8, 3, 5, 7)
		if got != want {
			t.Errorf("KeyOf(%+v): %+v, want %+v", w, got, want)
		}
		if !first.RightKey(got) {
			t.Errorf("KeyOf(%+v): %+v may not be", w, got)
		}
	}
}

// P14.3, R1: which protocol it is alone says whether kind and code count, and what may not be is handed on as it is.
func TestKeyOfAny(t *testing.T) {
	for proto := -70; proto <= 300; proto++ {
		for _, w := range []api.Tuple{way4(proto), way6(proto), {Fam: 9, Proto: proto, Src: api.Addr{Fam: 3, Hi: 1}, Dst: api.Addr{Fam: 4, Hi: 2}, Sport: -5, Dport: 1 << 40}} {
			for _, n := range [][4]int{{0, 0, 0, 0}, {255, 254, 15, 14}, {math.MinInt, math.MaxInt, -1, 16}, {-1, 65536, math.MaxInt, math.MinInt}} {
				want := api.Key{From: n[2], To: n[3], Src: w.Src, Dst: w.Dst, Proto: proto, Sport: w.Sport, Dport: w.Dport}
				if proto == 1 || proto == 58 {
					want.Sport, want.Dport = n[0], n[1]
				}
				if got := tuple.KeyOf(w, n[0], n[1], n[2], n[3]); got != want {
					t.Fatalf("KeyOf(%+v, %v): %+v, want %+v", w, n, got, want)
				}
			}
		}
	}
	if got := tuple.KeyOf(api.Tuple{}, 1, 2, 3, 4); got != (api.Key{From: 3, To: 4}) {
		t.Errorf("KeyOf of the zero way: %+v", got)
	}
}

// P14.4: the first and the last address of each prefix, and those beside them.
func TestMulticastAndLocal(t *testing.T) {
	for _, c := range []struct {
		a           api.Addr
		many, local bool
	}{
		{a4(223, 255, 255, 255), false, false}, {a4(224, 0, 0, 0), true, false}, {a4(224, 0, 0, 1), true, false}, {a4(232, 1, 2, 3), true, false}, {a4(239, 255, 255, 255), true, false}, {a4(240, 0, 0, 0), false, false},
		{a4(255, 255, 255, 254), false, false}, {a4(255, 255, 255, 255), true, false}, {a4(255, 0, 0, 0), false, false},
		{a4(126, 255, 255, 255), false, false}, {a4(127, 0, 0, 0), false, true}, {a4(127, 0, 0, 1), false, true}, {a4(127, 255, 255, 255), false, true}, {a4(128, 0, 0, 0), false, false},
		{a4(0, 0, 0, 0), false, true}, {a4(0, 0, 0, 1), false, true}, {a4(0, 255, 255, 255), false, true}, {a4(1, 0, 0, 0), false, false},
		{a4(10, 0, 0, 1), false, false}, {a4(192, 168, 0, 255), false, false}, {a4(96, 0, 0, 0), false, false}, {a4(160, 0, 0, 0), false, false},
		{a6(0, 0), false, true}, {a6(0, 1), false, true}, {a6(0, 2), false, false}, {a6(0, 3), false, false}, {a6(0, most), false, false}, {a6(1, 0), false, false}, {a6(1, 1), false, false}, {a6(1<<63, 1), false, false}, {a6(0, 1<<63), false, false},
		{a6(0xfeff<<48|0xffffffffffff, most), false, false}, {a6(0xff<<56, 0), true, false}, {a6(0xff02<<48, 1), true, false}, {a6(0xff<<56, 1), true, false}, {a6(most, most), true, false}, {a6(0xfe<<56, 0), false, false}, {a6(0x7f<<56, 0), false, false},
		{a6(0xfe80<<48, 1), false, false}, {a6(0x20010db8<<32, 1), false, false},
		// What looks like an address of family 4 is none.
		{a6(0, 0xffff7f000001), false, false}, {a6(0, 0xffffe0000001), false, false}, {a6(0, 0x7f000001), false, false}, {a6(0, 0xe0000001), false, false}, {a6(0, 0xffffffff), false, false}, {a6(0x7f000001<<32, 0), false, false}, {a6(0xe0<<56, 0), false, false},
	} {
		wantKinds(t, c.a, c.many, c.local)
	}
}

func wantKinds(t testing.TB, a api.Addr, many, local bool) {
	t.Helper()
	if got := tuple.Multicast(a); got != many {
		t.Errorf("Multicast(%+v): %v", a, got)
	}
	if got := tuple.Local(a); got != local {
		t.Errorf("Local(%+v): %v", a, got)
	}
}

// P14.4: an address that may not be is of neither kind.
func TestKindsOfNone(t *testing.T) {
	for _, a := range []api.Addr{
		a4(224, 0, 0, 1), a4(255, 255, 255, 255), a4(127, 0, 0, 1), a4(0, 0, 0, 0), a6(0xff02<<48, 1), a6(0, 1), a6(0, 0),
	} {
		for _, fam := range []int{math.MinInt, -6, -4, -1, 0, 1, 3, 5, 7, 8, 46, math.MaxInt} {
			wantKinds(t, api.Addr{Fam: fam, Hi: a.Hi, Lo: a.Lo}, false, false)
		}
		if a.Fam == 4 {
			for _, bit := range []int{0, 1, 31, 32, 63} {
				wantKinds(t, api.Addr{Fam: 4, Hi: 1 << bit, Lo: a.Lo}, false, false)
				wantKinds(t, api.Addr{Fam: 4, Lo: a.Lo | 1<<32<<(bit/2)}, false, false)
			}
		}
	}
	wantKinds(t, api.Addr{Fam: 4, Hi: 0xff << 56}, false, false)
	wantKinds(t, api.Addr{Fam: 4, Hi: most, Lo: most}, false, false)
	wantKinds(t, api.Addr{Fam: 4, Lo: most}, false, false)
}
