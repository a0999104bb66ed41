package tuple_test

import (
	"math"
	"slices"
	"testing"

	"stockade/api"
	"stockade/tuple"
)

func wantOrder(t testing.TB, a, b api.Tuple, want int) {
	t.Helper()
	if got := tuple.Order(a, b); got != want {
		t.Errorf("Order(%+v, %+v): %d, want %d", a, b, got, want)
	}
	if got := tuple.Order(b, a); got != -want {
		t.Errorf("Order(%+v, %+v): %d, want %d", b, a, got, -want)
	}
}

// parts write a number into one part of a way each, in the order's own order; of an address its Fam, its Hi and its Lo are three of them.
func parts() []func(w W, n int) {
	return []func(w W, n int){
		func(w W, n int) { w.Fam = n },
		func(w W, n int) { w.Proto = n },
		func(w W, n int) { w.Src.Fam = n },
		func(w W, n int) { w.Src.Hi = uint64(n) },
		func(w W, n int) { w.Src.Lo = uint64(n) },
		func(w W, n int) { w.Dst.Fam = n },
		func(w W, n int) { w.Dst.Hi = uint64(n) },
		func(w W, n int) { w.Dst.Lo = uint64(n) },
		func(w W, n int) { w.Sport = n },
		func(w W, n int) { w.Dport = n },
	}
}

// level is a way of which all parts have one number.
func level(n int) api.Tuple {
	var w api.Tuple
	for _, p := range parts() {
		p(&w, n)
	}
	return w
}

// P14.1: a part alone decides, if all others are alike.
func TestOrderByOnePart(t *testing.T) {
	for i, p := range parts() {
		for _, pair := range [][2]int{{3, 4}, {4, 5}, {4, 6}, {0, 4}, {4, 65535}, {4, math.MaxInt}} {
			a, b := level(4), level(4)
			p(&a, pair[0])
			p(&b, pair[1])
			if tuple.Order(a, b) != -1 {
				t.Errorf("part %d of %v does not tell", i, pair)
			}
			wantOrder(t, a, b, -1)
			wantOrder(t, a, a, 0)
			wantOrder(t, b, b, 0)
		}
	}
}

// P14.1: a part counts for more than all those behind it together.
func TestOrderOfParts(t *testing.T) {
	all := parts()
	for i := range all {
		a, b := level(4), level(4)
		all[i](&a, 3)
		for _, p := range all[i+1:] {
			p(&a, 9)
			p(&b, 1)
		}
		wantOrder(t, a, b, -1)
		for _, p := range all[i+1:] {
			p(&a, math.MaxInt)
			p(&b, 0)
		}
		wantOrder(t, a, b, -1)
	}
}

// P14.1: numbers below 0 and the greatest ones; bits of addresses have no sign.
func TestOrderFarOff(t *testing.T) {
	signed := func(turn func(w W, n int)) {
		t.Helper()
		for _, pair := range [][2]int{{math.MinInt, math.MaxInt}, {-1, 0}, {-1, 1}, {math.MinInt, -1}, {math.MinInt, 0}, {0, math.MaxInt}} {
			a, b := way4(api.TCP), way4(api.TCP)
			turn(&a, pair[0])
			turn(&b, pair[1])
			wantOrder(t, a, b, -1)
		}
	}
	signed(func(w W, n int) { w.Fam = n })
	signed(func(w W, n int) { w.Proto = n })
	signed(func(w W, n int) { w.Src.Fam = n })
	signed(func(w W, n int) { w.Dst.Fam = n })
	signed(func(w W, n int) { w.Sport = n })
	signed(func(w W, n int) { w.Dport = n })
	for _, turn := range []func(w W, n uint64){
		func(w W, n uint64) { w.Src.Hi = n },
		func(w W, n uint64) { w.Src.Lo = n },
		func(w W, n uint64) { w.Dst.Hi = n },
		func(w W, n uint64) { w.Dst.Lo = n },
	} {
		for _, pair := range [][2]uint64{{0, most}, {1<<63 - 1, 1 << 63}, {0, 1 << 63}, {1, most}} {
			a, b := way6(api.UDP), way6(api.UDP)
			turn(&a, pair[0])
			turn(&b, pair[1])
			wantOrder(t, a, b, -1)
		}
	}
}

// P14.1: ordinary ways, in their order.
func TestOrderOfWays(t *testing.T) {
	row := []api.Tuple{
		{},
		way4(api.ICMP),
		turned(way4(api.TCP), func(w W) { w.Src = a4(9, 255, 255, 255) }),
		turned(way4(api.TCP), func(w W) { w.Dst = a4(10, 0, 0, 1); w.Sport = 65535 }),
		turned(way4(api.TCP), func(w W) { w.Sport = 0; w.Dport = 65535 }),
		turned(way4(api.TCP), func(w W) { w.Dport = 79 }),
		way4(api.TCP),
		turned(way4(api.TCP), func(w W) { w.Sport = 1025; w.Dport = 1 }),
		tuple.Reverse(way4(api.TCP)),
		way4(api.UDP),
		turned(way6(api.TCP), func(w W) { w.Fam = 5 }),
		tuple.Reverse(way6(api.TCP)),
		way6(api.TCP),
		way6(api.UDP),
		way6(api.ICMP6),
		turned(way6(api.ICMP6), func(w W) { w.Src.Hi = 0xff02 << 48 }),
	}
	for i, a := range row {
		for j, b := range row {
			want := 0
			if i < j {
				want = -1
			} else if i > j {
				want = 1
			}
			wantOrder(t, a, b, want)
		}
	}
	mixed := slices.Clone(row)
	slices.Reverse(mixed)
	slices.SortFunc(mixed, tuple.Order)
	if !slices.Equal(mixed, row) {
		t.Errorf("sorted: %+v", mixed)
	}
}
