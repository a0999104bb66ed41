package norm_test

import (
	"fmt"
	"math"
	"slices"
	"strings"
	"testing"

	"stockade/addr"
	"stockade/api"
	"stockade/conf"
	"stockade/norm"
)

// routed is a configuration with these prefixes as paths, the first one through the iface 100, each other one through one more; there are ifaces for all, a few of them through the same.
func routed(t testing.TB, nets ...string) api.Conf {
	t.Helper()
	var b strings.Builder
	b.WriteString("zone a 1\n")
	for i := range 32 {
		fmt.Fprintf(&b, "iface %d a\n", 100+i)
	}
	for i, n := range nets {
		fmt.Fprintf(&b, "path %s %d\n", n, 100+i%32)
	}
	return parsed(t, b.String())
}

// wayOf asks for the way of an address's text: through the iface of the path at this place, or through none (-1).
func wayOf(t testing.TB, c api.Conf, a string, place int) {
	t.Helper()
	if place < 0 {
		wantWay(t, c, address(t, a), 0, api.ErrPath)
		return
	}
	wantWay(t, c, address(t, a), 100+place%32, api.OK)
}

// P9.3: one path, of both families, at its edges.
func TestOnePath(t *testing.T) {
	for _, c := range []struct {
		net      string
		has, not []string
	}{
		{"10.0.0.0/8", []string{"10.0.0.0", "10.255.255.255", "10.9.9.9"}, []string{"9.255.255.255", "11.0.0.0", "0.0.0.0", "255.255.255.255", "::", "::a00:0", "a00::"}},
		{"0.0.0.0/0", []string{"0.0.0.0", "255.255.255.255", "10.0.0.1"}, []string{"::", "::1", "::ffff:ffff", "::ffff:a00:1", "ffff::"}},
		{"::/0", []string{"::", "::1", "ffff:ffff:ffff:ffff:ffff:ffff:ffff:ffff", "::ffff:a00:1"}, []string{"0.0.0.0", "10.0.0.1", "255.255.255.255"}},
		{"10.0.0.2/32", []string{"10.0.0.2"}, []string{"10.0.0.1", "10.0.0.3", "::a00:2"}},
		{"0.0.0.0/32", []string{"0.0.0.0"}, []string{"0.0.0.1", "::"}},
		{"::1/128", []string{"::1"}, []string{"::", "::2", "0.0.0.1", "1::1", "8000::1"}},
		{"2001:db8::/32", []string{"2001:db8::", "2001:db8:ffff:ffff:ffff:ffff:ffff:ffff"}, []string{"2001:db7:ffff:ffff:ffff:ffff:ffff:ffff", "2001:db9::"}},
		{"2001:db8::/64", []string{"2001:db8::", "2001:db8::ffff:ffff:ffff:ffff"}, []string{"2001:db8:0:1::", "2001:db7:ffff:ffff:ffff:ffff:ffff:ffff"}},
		{"2001:db8::8000:0:0:0/65", []string{"2001:db8::8000:0:0:0", "2001:db8::ffff:ffff:ffff:ffff"}, []string{"2001:db8::", "2001:db8::7fff:ffff:ffff:ffff", "2001:db8:0:1:8000::"}},
		{"128.0.0.0/1", []string{"128.0.0.0", "255.255.255.255"}, []string{"127.255.255.255", "0.0.0.0", "8000::"}},
	} {
		for _, a := range c.has {
			wayOf(t, routed(t, c.net), a, 0)
		}
		for _, a := range c.not {
			wayOf(t, routed(t, c.net), a, -1)
		}
	}
}

// P9.3: the most Bits count, wherever in the list the path stands: all orders of four nested paths.
func TestNested(t *testing.T) {
	nets := []string{"0.0.0.0/0", "10.0.0.0/8", "10.1.0.0/16", "10.1.2.3/32"}
	six := []string{"::/0", "2001:db8::/32", "2001:db8:1::/48", "2001:db8:1::3/128"}
	for _, order := range orders(4) {
		var four, both []string
		places := make([]int, 4)
		for at, i := range order {
			four, both = append(four, nets[i]), append(both, six[i], nets[i])
			places[i] = at
		}
		c, d := routed(t, four...), routed(t, both...)
		for i, a := range []string{"11.0.0.1", "10.2.0.1", "10.1.2.4", "10.1.2.3"} {
			wayOf(t, c, a, places[i])
			wayOf(t, d, a, 2*places[i]+1)
		}
		for i, a := range []string{"2001:db9::1", "2001:db8:2::3", "2001:db8:1::4", "2001:db8:1::3"} {
			wayOf(t, d, a, 2*places[i])
			wayOf(t, c, a, -1)
		}
	}
}

// orders are all orders of the numbers below n.
func orders(n int) [][]int {
	if n == 0 {
		return [][]int{{}}
	}
	var all [][]int
	for _, o := range orders(n - 1) {
		for i := range n {
			all = append(all, slices.Insert(slices.Clone(o), i, n-1))
		}
	}
	return all
}

// P9.3: all 33 prefixes of one address of family 4, and every other of one of family 6, rising, falling and mixed; an address that leaves it at the bit i is reached by the last one that it does not leave.
func TestLadder(t *testing.T) {
	for _, top := range []api.Addr{{Fam: 4, Lo: 0xa5c3_0ff1}, {Fam: 6, Hi: 0xa5c3_0ff1_1234_5678, Lo: 0x8f0f_3c3c_5555_0001}} {
		bits, step := 32, 1
		if top.Fam == 6 {
			bits, step = 128, 4
		}
		var lengths []int
		for n := 0; n <= bits; n += step {
			lengths = append(lengths, n)
		}
		for _, by := range []int{1, len(lengths) - 1, 2, 7} {
			var nets []string
			at := map[int]int{}
			for i := range lengths {
				n := lengths[i*by%len(lengths)]
				m, e := addr.Mask(top, n)
				if e != api.OK {
					t.Fatal(e)
				}
				at[n] = i
				nets = append(nets, addr.PrefixText(api.Prefix{Addr: m, Bits: n}))
			}
			if len(at) != len(lengths) {
				t.Fatal("a length is missing")
			}
			c := routed(t, nets...)
			for n := range bits {
				wantWay(t, c, flipped(top, bits, n), 100+at[n/step*step]%32, api.OK)
			}
			wantWay(t, c, top, 100+at[bits]%32, api.OK)
		}
	}
}

// flipped is an address with one of its bits turned, counted from its first one.
func flipped(a api.Addr, bits, n int) api.Addr {
	if back := bits - 1 - n; back < 64 {
		a.Lo ^= 1 << back
	} else {
		a.Hi ^= 1 << (back - 64)
	}
	return a
}

// P9.3: paths of the same Bits beside one another, each with its own addresses.
func TestSameBits(t *testing.T) {
	for _, nets := range [][]string{{"10.0.0.0/8", "11.0.0.0/8", "0.0.0.0/0"}, {"11.0.0.0/8", "10.0.0.0/8"}, {"10.0.0.1", "10.0.0.2", "10.0.0.3"}, {"0.0.0.0/1", "128.0.0.0/1"}, {"0.0.0.0/0", "::/0"}, {"::/0", "0.0.0.0/0"}, {"::1", "::2", "::"}, {"10.0.0.0/32", "a00::/32"}, {"a00::/8", "10.0.0.0/8", "::/8", "0.0.0.0/8"}} {
		c := routed(t, nets...)
		for i, n := range nets {
			first, _, _ := strings.Cut(n, "/")
			wayOf(t, c, first, i)
		}
	}
}

// P9.3: what is answered is a Num, also where it is 0 or 65535, and where several paths share one.
func TestNums(t *testing.T) {
	c := parsed(t, "zone a 1\niface 7 a\niface 65535 a\niface 0 a\npath 10.0.0.0/8 0\npath 10.1.0.0/16 65535\npath 10.1.1.0/24 0\npath ::/0 65535\npath ::1 7\n")
	for a, n := range map[string]int{"10.0.0.1": 0, "10.1.0.1": 65535, "10.1.1.1": 0, "::2": 65535, "::1": 7} {
		wantWay(t, c, address(t, a), n, api.OK)
	}
	wantWay(t, c, address(t, "11.0.0.0"), 0, api.ErrPath)
}

// P9.3: no path has an address that may not be, not even those of all addresses.
func TestWrongAddresses(t *testing.T) {
	c := routed(t, "0.0.0.0/0", "::/0", "0.0.0.0", "::", "10.0.0.0/8", "::/96")
	for _, a := range []api.Addr{
		{}, {Lo: 1}, {Hi: 1}, {Lo: 10<<24 + 1}, {Fam: 4, Lo: 1 << 32}, {Fam: 4, Lo: 1<<32 + 10<<24}, {Fam: 4, Hi: 1}, {Fam: 4, Hi: 1 << 63}, {Fam: 4, Lo: math.MaxUint64}, {Fam: 4, Hi: math.MaxUint64, Lo: 10 << 24},
		{Fam: 1}, {Fam: 2}, {Fam: 3}, {Fam: 5}, {Fam: 7}, {Fam: 10}, {Fam: -1}, {Fam: -4}, {Fam: -6}, {Fam: 4 + 1<<32}, {Fam: 6 + 1<<32}, {Fam: math.MinInt}, {Fam: math.MaxInt, Lo: 5},
	} {
		wantWay(t, c, a, 0, api.ErrPath)
	}
}

// steps are addresses at the edges of many prefixes, of both families, and some that may not be.
func steps(t testing.TB) []api.Addr {
	t.Helper()
	list := []api.Addr{{}, {Fam: 5, Lo: 10 << 24}, {Fam: 4, Lo: 1 << 32}}
	for _, s := range []string{
		"0.0.0.0", "9.255.255.255", "10.0.0.0", "10.0.0.1", "10.0.0.2", "10.0.255.255", "10.1.0.0", "10.1.2.3", "10.1.2.4", "10.1.255.255", "10.2.0.0", "10.255.255.255", "11.0.0.0", "127.255.255.255", "128.0.0.0", "255.255.255.255",
		"::", "::1", "::2", "::a00:1", "2001:db7:ffff:ffff:ffff:ffff:ffff:ffff", "2001:db8::", "2001:db8::1", "2001:db8:1::", "2001:db8:1::3", "2001:db8:1:1::", "2001:db8:ffff:ffff:ffff:ffff:ffff:ffff", "2001:db9::", "7fff:ffff:ffff:ffff:ffff:ffff:ffff:ffff", "8000::", "ffff:ffff:ffff:ffff:ffff:ffff:ffff:ffff",
	} {
		list = append(list, address(t, s))
	}
	return list
}

var manyNets = []string{
	"0.0.0.0/0", "0.0.0.0/1", "128.0.0.0/1", "10.0.0.0/8", "10.0.0.0/16", "10.1.0.0/16", "10.1.2.0/24", "10.1.2.3", "10.0.0.0/32", "255.255.255.255", "0.0.0.0/32",
	"::/0", "::/1", "8000::/1", "2001:db8::/32", "2001:db8:1::/48", "2001:db8:1::/64", "2001:db8:1::3", "::/64", "::1", "::/128", "::/96",
}

// P9.5: a path more, at whatever place, turns no way of an address that it does not have; those that it has go through it, unless one with more Bits has them.
func TestPathMore(t *testing.T) {
	asked := steps(t)
	turned, kept := 0, 0
	for at := range manyNets {
		for _, step := range []int{1, 3, 5, 9} {
			var nets []string
			for i := 0; i < len(manyNets); i += step {
				if i != at {
					nets = append(nets, manyNets[i])
				}
			}
			old := routed(t, nets...)
			net, _ := addr.ParsePrefix(manyNets[at])
			for place := range len(nets) + 1 {
				more := copied(old)
				more.Paths = slices.Insert(more.Paths, place, api.Path{Net: net, Num: 131})
				for _, a := range asked {
					was, e := norm.Way(old, a)
					if !addr.Has(net, a) {
						wantWay(t, more, a, was, e)
						kept++
						continue
					}
					if topBits(old, a) < net.Bits {
						was, e = 131, api.OK
						turned++
					}
					wantWay(t, more, a, was, e)
				}
			}
		}
	}
	if turned < 1000 || kept < 10000 {
		t.Error(turned, kept)
	}
}

// topBits is the most Bits of the paths that have an address; -1, if none has.
func topBits(c api.Conf, a api.Addr) int {
	top := -1
	for _, p := range c.Paths {
		if addr.Has(p.Net, a) {
			top = max(top, p.Net.Bits)
		}
	}
	return top
}

// P9.3: as many paths as there may be, and none but the last one has the address.
func TestFullPaths(t *testing.T) {
	var nets []string
	for i := range 64 {
		nets = append(nets, fmt.Sprintf("10.%d.0.0/16", i))
	}
	c := routed(t, nets...)
	for i := range 64 {
		wayOf(t, c, fmt.Sprintf("10.%d.1.1", i), i)
	}
	wayOf(t, c, "10.64.0.0", -1)
	c.Paths = append(c.Paths, api.Path{Net: v4(11<<24, 8), Num: 100})
	if conf.Right(c) {
		t.Fatal("65 paths may be")
	}
	wantWay(t, c, address(t, "10.1.1.1"), 0, api.ErrArg)
}
