package norm_test

import (
	"fmt"
	"math"
	"slices"
	"strings"
	"testing"

	"stockade/addr"
	"stockade/api"
	"stockade/conf"
	"stockade/norm"
)

const example = "zone lan 90\nzone wan 10\niface 1 lan\npath 10.0.0.0/8 1\nrule wan lan dst 10.0.0.2 proto tcp dport 80 allow\nrule lan any allow"

// ground is a text whose zones, ifaces and paths the rules of other tests speak of.
const ground = "zone lan 90\nzone wan 10\nzone dmz 50\niface 1 lan\niface 2 wan\niface 0 wan\npath 10.0.0.0/8 1\npath 0.0.0.0/0 2\npath 2001:db8::/32 0\n"

var all = api.Ports{Lo: 0, Hi: 65535}

// odd are numbers that no iface and no zone of the tests has, and that stand beside those that have.
var odd = []int{math.MinInt, math.MinInt + 1, math.MinInt32, -65536, -65535, -17, -16, -2, -1, 65536, 65537, 131072, math.MaxInt32, 1 << 32, 1<<32 + 1, math.MaxInt - 1, math.MaxInt}

// parsed is the configuration of a text that has no fault.
func parsed(t testing.TB, s string) api.Conf {
	t.Helper()
	c, f := conf.Parse(s)
	if f != (api.Fault{}) {
		t.Fatalf("Parse(%.300q): %v", s, f)
	}
	return c
}

func address(t testing.TB, s string) api.Addr {
	t.Helper()
	a, e := addr.Parse(s)
	if e != api.OK {
		t.Fatal(s, e)
	}
	return a
}

func v4(lo uint64, bits int) api.Prefix {
	return api.Prefix{Addr: api.Addr{Fam: 4, Lo: lo}, Bits: bits}
}

func v6(hi, lo uint64, bits int) api.Prefix {
	return api.Prefix{Addr: api.Addr{Fam: 6, Hi: hi, Lo: lo}, Bits: bits}
}

// copied is a configuration with lists of its own.
func copied(c api.Conf) api.Conf {
	return api.Conf{
		Zones:  append([]api.Zone{}, c.Zones...),
		Ifaces: append([]api.Iface{}, c.Ifaces...),
		Paths:  append([]api.Path{}, c.Paths...),
		Rules:  append([]api.Line{}, c.Rules...),
	}
}

// brief is what a failure tells of a configuration, however long it is.
func brief(c api.Conf) string {
	s := fmt.Sprint(c)
	return s[:min(len(s), 500)]
}

func wantRules(t testing.TB, c api.Conf, want ...api.Rule) {
	t.Helper()
	if got, e := norm.Rules(c); e != api.OK || !slices.Equal(got, want) {
		t.Errorf("Rules(%s): %v %v, want %v", brief(c), got, e, want)
	}
}

func wantZone(t testing.TB, c api.Conf, iface, want int, why api.Errno) {
	t.Helper()
	if got, e := norm.ZoneOf(c, iface); got != want || e != why {
		t.Errorf("ZoneOf(%s, %d): %d %v, want %d %v", brief(c), iface, got, e, want, why)
	}
}

func wantTrust(t testing.TB, c api.Conf, zone, want int, why api.Errno) {
	t.Helper()
	if got, e := norm.Trust(c, zone); got != want || e != why {
		t.Errorf("Trust(%s, %d): %d %v, want %d %v", brief(c), zone, got, e, want, why)
	}
}

func wantWay(t testing.TB, c api.Conf, a api.Addr, want int, why api.Errno) {
	t.Helper()
	if got, e := norm.Way(c, a); got != want || e != why {
		t.Errorf("Way(%s, %v): %d %v, want %d %v", brief(c), a, got, e, want, why)
	}
}

// The chapter's example, in all four calls.
func TestExample(t *testing.T) {
	c := parsed(t, example)
	wantRules(t, c,
		api.Rule{From: 1, To: 0, Dst: v4(10<<24+2, 32), Proto: 6, Sport: all, Dport: api.Ports{Lo: 80, Hi: 80}, Action: 1},
		api.Rule{From: 0, To: -1, Sport: all, Dport: all, Action: 1})
	wantZone(t, c, 1, 0, api.OK)
	wantZone(t, c, 0, 0, api.ErrIface)
	wantZone(t, c, 2, 0, api.ErrIface)
	wantTrust(t, c, 0, 90, api.OK)
	wantTrust(t, c, 1, 10, api.OK)
	wantTrust(t, c, 2, 0, api.ErrNone)
	wantWay(t, c, address(t, "10.9.9.9"), 1, api.OK)
	wantWay(t, c, address(t, "11.0.0.1"), 0, api.ErrPath)
}

// What a configuration without anything answers, with lists that are nil and with empty ones (R6).
func TestNothing(t *testing.T) {
	for _, c := range []api.Conf{{}, copied(api.Conf{}), parsed(t, ""), parsed(t, "# zone lan 90\n")} {
		wantRules(t, c)
		for _, n := range append([]int{0, 1, 15, 16, 65535}, odd...) {
			wantZone(t, c, n, 0, api.ErrIface)
			wantTrust(t, c, n, 0, api.ErrNone)
		}
		for _, a := range []api.Addr{{}, {Fam: 4}, {Fam: 6}, {Fam: 4, Lo: 1<<32 - 1}, {Fam: 6, Lo: 1}} {
			wantWay(t, c, a, 0, api.ErrPath)
		}
	}
	wantRules(t, parsed(t, ground))
	wantRules(t, parsed(t, "rule any any allow\nrule any any deny"), api.Rule{From: -1, To: -1, Sport: all, Dport: all, Action: 1}, api.Rule{From: -1, To: -1, Sport: all, Dport: all})
	wantTrust(t, parsed(t, "zone a 7"), 0, 7, api.OK)
	wantZone(t, parsed(t, "zone a 7"), 0, 0, api.ErrIface)
	wantZone(t, parsed(t, "zone a 7\niface 0 a"), 0, 0, api.OK)
	wantWay(t, parsed(t, "zone a 7\niface 0 a"), api.Addr{Fam: 4}, 0, api.ErrPath)
}

// P9.1: any on either side, on both, and on none, with each zone.
func TestAnySides(t *testing.T) {
	nums := map[string]int{"any": -1, "lan": 0, "wan": 1, "dmz": 2}
	for from, f := range nums {
		for to, n := range nums {
			c := parsed(t, ground+"rule "+from+" "+to+" deny")
			wantRules(t, c, api.Rule{From: f, To: n, Sport: all, Dport: all})
		}
	}
}

// P9.1: names that are like any, or like one another, are not taken for one another.
func TestAlikeNames(t *testing.T) {
	names := []string{"Any", "ANY", "an", "anyy", "lan", "Lan", "la", "lan1", "lan10", "l", "abcdefghijklmnop", "abcdefghijklmno"}
	var b strings.Builder
	var want []api.Rule
	for i, n := range names {
		fmt.Fprintf(&b, "zone %s %d\n", n, i)
	}
	for i, n := range names {
		fmt.Fprintf(&b, "iface %d %s\nrule %s any deny\nrule any %s deny\n", 100+i, n, n, n)
		want = append(want, api.Rule{From: i, To: -1, Sport: all, Dport: all}, api.Rule{From: -1, To: i, Sport: all, Dport: all})
	}
	c := parsed(t, b.String())
	wantRules(t, c, want...)
	for i := range names {
		wantZone(t, c, 100+i, i, api.OK)
		wantTrust(t, c, i, i, api.OK)
	}
}

// full has 16 zones of the trusts 0, 5, .. 75 and 32 ifaces, whose zones and Nums are handed in by their places.
func full(t testing.TB, zoneOf func(i int) int, numOf func(i int) int) api.Conf {
	t.Helper()
	var b strings.Builder
	for i := range 16 {
		fmt.Fprintf(&b, "zone z%d %d\n", i, 5*i)
	}
	for i := range 32 {
		fmt.Fprintf(&b, "iface %d z%d\n", numOf(i), zoneOf(i))
	}
	return parsed(t, b.String())
}

// P9.1, P9.2: the first zone and the last of 16, and all between, in each place where a zone stands; numbers go by the order of the zones, not by their names.
func TestSixteenZones(t *testing.T) {
	c := full(t, func(i int) int { return 15 - i/2 }, func(i int) int { return 65535 - 7*i })
	for i := range 32 {
		wantZone(t, c, 65535-7*i, 15-i/2, api.OK)
		wantZone(t, c, 65535-7*i-1, 0, api.ErrIface)
	}
	for i := range 16 {
		wantTrust(t, c, i, 5*i, api.OK)
		for j := range 16 {
			c.Rules = []api.Line{{From: fmt.Sprint("z", i), To: fmt.Sprint("z", j), Sport: all, Dport: all}}
			wantRules(t, c, api.Rule{From: i, To: j, Sport: all, Dport: all})
		}
	}
	slices.Reverse(c.Zones)
	wantRules(t, c, api.Rule{From: 0, To: 0, Sport: all, Dport: all})
	for i := range 16 {
		wantTrust(t, c, i, 75-5*i, api.OK)
		wantZone(t, c, 65535-7*2*i, i, api.OK)
	}
}

// P9.2: ifaces with the Nums 0 and 65535, and ones that are not there; a Num is no place in a list.
func TestZoneOf(t *testing.T) {
	c := parsed(t, "zone a 1\nzone b 2\nzone c 3\niface 65535 c\niface 0 b\niface 2 a\niface 17 b\n")
	wantZone(t, c, 0, 1, api.OK)
	wantZone(t, c, 65535, 2, api.OK)
	wantZone(t, c, 2, 0, api.OK)
	wantZone(t, c, 17, 1, api.OK)
	for _, n := range append([]int{1, 3, 16, 18, 65534, 32767, 32768}, odd...) {
		wantZone(t, c, n, 0, api.ErrIface)
	}
}

// P9.2: each Num from 0 to 65535, of the ifaces that are there and of none.
func TestEveryNum(t *testing.T) {
	c := full(t, func(i int) int { return i % 16 }, func(i int) int { return 2114 * i })
	for n := -2; n <= 65537; n++ {
		if i := n / 2114; n >= 0 && n%2114 == 0 && i < 32 {
			wantZone(t, c, n, i%16, api.OK)
		} else {
			wantZone(t, c, n, 0, api.ErrIface)
		}
	}
}

// falling is a trust for each zone number, no two alike.
func falling(zone int) int {
	return 100 - zone*(zone+3)/3
}

// P9.2: zone numbers -1, 0, the last one and one more, of as many zones as there may be; trusts from 0 to 100.
func TestTrust(t *testing.T) {
	var c api.Conf
	for n := range 17 {
		for _, zone := range append([]int{n, n + 1, 16, 17}, odd...) {
			if zone >= n || zone < 0 {
				wantTrust(t, c, zone, 0, api.ErrNone)
			}
		}
		for zone := range n {
			wantTrust(t, c, zone, falling(zone), api.OK)
		}
		if n < 16 {
			c.Zones = append(c.Zones, api.Zone{Name: fmt.Sprint("z", n), Trust: falling(n)})
		}
	}
	for trust := range 101 {
		wantTrust(t, parsed(t, fmt.Sprintf("zone a 50\nzone b %d", trust)), 1, trust, api.OK)
	}
}

// P9.1: each part of a rule as it stands, alone and with the others.
func TestAsItStands(t *testing.T) {
	for line, want := range map[string]api.Rule{
		"src 10.0.0.0/8 allow":                 {Src: v4(10<<24, 8), Sport: all, Dport: all, Action: 1},
		"src 0.0.0.0/0 deny":                   {Src: v4(0, 0), Sport: all, Dport: all},
		"src 255.255.255.255 deny":             {Src: v4(1<<32-1, 32), Sport: all, Dport: all},
		"dst ::/0 deny":                        {Dst: v6(0, 0, 0), Sport: all, Dport: all},
		"dst 2001:db8::1 allow":                {Dst: v6(0x20010db800000000, 1, 128), Sport: all, Dport: all, Action: 1},
		"src fe80::/10 dst ::/1 deny":          {Src: v6(0xfe80<<48, 0, 10), Dst: v6(0, 0, 1), Sport: all, Dport: all},
		"proto tcp deny":                       {Proto: 6, Sport: all, Dport: all},
		"proto udp deny":                       {Proto: 17, Sport: all, Dport: all},
		"proto icmp deny":                      {Proto: 1, Sport: all, Dport: all},
		"proto icmp6 deny":                     {Proto: 58, Sport: all, Dport: all},
		"proto tcp sport 0 deny":               {Proto: 6, Dport: all},
		"proto tcp sport 65535 deny":           {Proto: 6, Sport: api.Ports{Lo: 65535, Hi: 65535}, Dport: all},
		"proto udp dport 1-65534 deny":         {Proto: 17, Sport: all, Dport: api.Ports{Lo: 1, Hi: 65534}},
		"proto udp dport 0 allow":              {Proto: 17, Sport: all, Action: 1},
		"proto tcp allow help ftp":             {Proto: 6, Sport: all, Dport: all, Action: 1, Help: 1},
		"proto udp allow help tftp":            {Proto: 17, Sport: all, Dport: all, Action: 1, Help: 2},
		"proto udp allow help sip":             {Proto: 17, Sport: all, Dport: all, Action: 1, Help: 3},
		"proto tcp sport 0-65535 dport 7 deny": {Proto: 6, Sport: all, Dport: api.Ports{Lo: 7, Hi: 7}},
		"src 10.0.0.1 dst 11.0.0.0/8 proto udp sport 1-2 dport 3-4 allow help sip": {Src: v4(10<<24+1, 32), Dst: v4(11<<24, 8), Proto: 17, Sport: api.Ports{Lo: 1, Hi: 2}, Dport: api.Ports{Lo: 3, Hi: 4}, Action: 1, Help: 3},
	} {
		want.From, want.To = 2, 1
		wantRules(t, parsed(t, ground+"rule dmz wan "+line), want)
		want.From, want.To = -1, 0
		wantRules(t, parsed(t, ground+"rule any lan "+line), want)
	}
}

// P9.4: as many rules as there are lines, in order, from none to 64, also where lines are the same.
func TestAsMany(t *testing.T) {
	c := parsed(t, ground)
	names := []string{"any", "lan", "wan", "dmz"}
	var want []api.Rule
	for n := range 65 {
		wantRules(t, c, want...)
		if n == 64 {
			break
		}
		l := api.Line{From: names[n%4], To: names[n/4%4], Proto: 6, Sport: all, Dport: api.Ports{Lo: n / 2, Hi: n}, Action: n % 2}
		c.Rules = append(c.Rules, l)
		want = append(want, api.Rule{From: n%4 - 1, To: n/4%4 - 1, Proto: 6, Sport: all, Dport: api.Ports{Lo: n / 2, Hi: n}, Action: n % 2})
	}
	for i := range c.Rules {
		c.Rules[i], want[i] = c.Rules[0], want[0]
	}
	wantRules(t, c, want...)
}
