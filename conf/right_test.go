package conf_test

import (
	"math"
	"strings"
	"testing"

	"stockade/api"
	"stockade/conf"
)

// whole is a configuration that has something in every field.
func whole(t testing.TB) api.Conf {
	t.Helper()
	return parsed(t, ground+`rule lan wan src 10.0.0.0/8 dst 11.0.0.1 proto tcp sport 1-2 dport 21 allow help ftp
rule any dmz src ::1 dst fe80::/10 proto udp sport 5 dport 69-70 allow help tftp
rule any any proto udp dport 5060 allow help sip
rule wan any src 10.0.0.1 proto icmp deny
rule wan any dst ::/0 proto icmp6 allow
rule any any deny
`)
}

// turned is a configuration with one thing in it turned.
func turned(t testing.TB, turn func(c *api.Conf)) api.Conf {
	t.Helper()
	c := lists(whole(t))
	turn(&c)
	return c
}

func v4(lo uint64, bits int) api.Prefix {
	return api.Prefix{Addr: api.Addr{Fam: 4, Lo: lo}, Bits: bits}
}

func v6(hi, lo uint64, bits int) api.Prefix {
	return api.Prefix{Addr: api.Addr{Fam: 6, Hi: hi, Lo: lo}, Bits: bits}
}

var oddInts = []int{math.MinInt, math.MinInt + 1, math.MinInt32, -65536, -100, -17, -6, -2, -1, 0, 1, 2, 3, 4, 5, 6, 7, 16, 17, 18, 57, 58, 59, 99, 100, 101, 255, 256, 262, 65534, 65535, 65536, 65537, 1 << 20, math.MaxInt32, 1<<32 + 1, math.MaxInt - 1, math.MaxInt}

// oddNets are prefixes that may be, and such as may not, some for their address's bits behind their length.
var oddNets = []api.Prefix{
	{}, v4(0, 0), v4(10<<24, 8), v4(10<<24, 7), v4(10<<24, 6), v4(10<<24, 9), v4(10<<24+1, 8), v4(10<<24+1, 31), v4(10<<24+1, 32), v4(10<<24+1, 33), v4(10<<24, -1), v4(1<<32, 32), v4(0, 33), v4(1<<32-1, 32), v4(1<<31, 0),
	v6(0, 0, 0), v6(0, 1, 128), v6(0, 1, 127), v6(0, 1, 129), v6(0, 1, 0), v6(1<<63, 0, 1), v6(1<<63, 0, 0), v6(1, 0, 64), v6(1, 0, 63), v6(0, 0, -1), v6(math.MaxUint64, math.MaxUint64, 128), v6(0x20010db800000000, 0, 32), v6(0x20010db800000001, 0, 32),
	{Bits: 1}, {Bits: -1}, {Bits: 32}, {Addr: api.Addr{Lo: 1}}, {Addr: api.Addr{Hi: 1}}, {Addr: api.Addr{Lo: 1}, Bits: 32}, {Addr: api.Addr{Fam: 4, Hi: 1}, Bits: 32}, {Addr: api.Addr{Fam: 5}}, {Addr: api.Addr{Fam: -4}}, {Addr: api.Addr{Fam: 1, Lo: 5}, Bits: 32}, {Addr: api.Addr{Fam: math.MaxInt}}, {Addr: api.Addr{Fam: 2}},
}

var oddPorts = []api.Ports{{}, {Lo: 0, Hi: 65535}, {Lo: 0, Hi: 65534}, {Lo: 1, Hi: 65535}, {Lo: 5, Hi: 5}, {Lo: 65535, Hi: 65535}, {Lo: 6, Hi: 5}, {Lo: 65535, Hi: 0}, {Lo: -1, Hi: 5}, {Lo: -5, Hi: -1}, {Lo: 0, Hi: 65536}, {Lo: 65536, Hi: 65536}, {Lo: 65536, Hi: 70000}, {Lo: 0, Hi: -1}, {Lo: math.MinInt, Hi: math.MaxInt}, {Lo: -65536, Hi: 65535}, {Lo: math.MaxInt, Hi: math.MaxInt}}

func oddNames() []string {
	return append(append([]string{"", " ", "lan", "wan", "new", "lan 5", "lan\n", "a 1\nzone b", "lan#", "\tlan", "any any", "lan\x00", "lan any allow\nrule wan"}, goodNames...), badNames...)
}

// turns are configurations that differ from the whole one in one field of one element, whether they may be or not.
func turns(t testing.TB) []api.Conf {
	t.Helper()
	w := whole(t)
	var all []api.Conf
	add := func(turn func(c *api.Conf)) { all = append(all, turned(t, turn)) }
	for _, name := range oddNames() {
		for i := range w.Zones {
			add(func(c *api.Conf) { c.Zones[i].Name = name })
			add(func(c *api.Conf) { c.Ifaces[i].Zone = name })
		}
		for i := range w.Rules {
			add(func(c *api.Conf) { c.Rules[i].From = name })
			add(func(c *api.Conf) { c.Rules[i].To = name })
		}
	}
	for _, n := range oddInts {
		for i := range w.Zones {
			add(func(c *api.Conf) { c.Zones[i].Trust = n })
			add(func(c *api.Conf) { c.Ifaces[i].Num = n })
			add(func(c *api.Conf) { c.Paths[i].Num = n })
			add(func(c *api.Conf) { c.Paths[i].Net.Bits = n })
			add(func(c *api.Conf) { c.Paths[i].Net.Addr.Fam = n })
		}
		for i := range w.Rules {
			add(func(c *api.Conf) { c.Rules[i].Proto = n })
			add(func(c *api.Conf) { c.Rules[i].Action = n })
			add(func(c *api.Conf) { c.Rules[i].Help = n })
			add(func(c *api.Conf) { c.Rules[i].Src.Bits = n })
			add(func(c *api.Conf) { c.Rules[i].Dst.Addr.Fam = n })
			add(func(c *api.Conf) { c.Rules[i].Sport.Lo = n })
			add(func(c *api.Conf) { c.Rules[i].Sport.Hi = n })
			add(func(c *api.Conf) { c.Rules[i].Dport.Lo = n })
			add(func(c *api.Conf) { c.Rules[i].Dport.Hi = n })
		}
	}
	for _, p := range oddNets {
		for i := range w.Paths {
			add(func(c *api.Conf) { c.Paths[i].Net = p })
		}
		for i := range w.Rules {
			add(func(c *api.Conf) { c.Rules[i].Src = p })
			add(func(c *api.Conf) { c.Rules[i].Dst = p })
		}
	}
	for _, p := range oddPorts {
		for i := range w.Rules {
			add(func(c *api.Conf) { c.Rules[i].Sport = p })
			add(func(c *api.Conf) { c.Rules[i].Dport = p })
		}
	}
	return all
}

// holds asks a configuration for all that P8.2 and P8.3 say of it, by a text that is put together plainly.
func holds(t *testing.T, c api.Conf) bool {
	t.Helper()
	text := plainText(c)
	got, f := conf.Parse(text)
	right := f.Why == api.OK && same(got, c)
	if conf.Right(c) != right {
		t.Errorf("Right(%v) is not %v", c, right)
	}
	if !right {
		text = ""
	}
	if s := conf.Show(c); s != text {
		t.Errorf("Show(%v): %q, want %q", c, s, text)
	}
	return right
}

// P8.2, P8.3: configurations that differ from one that may be in one field.
func TestTurned(t *testing.T) {
	may, not := 0, 0
	for _, c := range turns(t) {
		if holds(t, c) {
			may++
		} else {
			not++
		}
	}
	if may < 200 || not < 1000 || !holds(t, whole(t)) || !holds(t, api.Conf{}) {
		t.Error(may, not)
	}
}

// P8.2: what may be and what may not, one by one.
func TestRight(t *testing.T) {
	for i, c := range []struct {
		want bool
		turn func(c *api.Conf)
	}{
		{true, func(c *api.Conf) {}},
		{true, func(c *api.Conf) { *c = api.Conf{} }},
		{true, func(c *api.Conf) { c.Rules = nil }},
		{true, func(c *api.Conf) { c.Paths, c.Rules = nil, []api.Line{} }},
		{false, func(c *api.Conf) { c.Zones = nil }},
		{false, func(c *api.Conf) { c.Ifaces = nil }},
		{true, func(c *api.Conf) { c.Ifaces, c.Paths = nil, nil }},
		{true, func(c *api.Conf) { c.Zones[0].Trust = 0 }},
		{true, func(c *api.Conf) { c.Zones[0].Trust = 100 }},
		{false, func(c *api.Conf) { c.Zones[0].Trust = 101 }},
		{false, func(c *api.Conf) { c.Zones[0].Trust = -1 }},
		{true, func(c *api.Conf) { c.Zones = append(c.Zones, api.Zone{Name: "abcdefghijklmnop"}) }},
		{false, func(c *api.Conf) { c.Zones = append(c.Zones, api.Zone{Name: "abcdefghijklmnopq"}) }},
		{false, func(c *api.Conf) { c.Zones = append(c.Zones, api.Zone{Name: "any"}) }},
		{false, func(c *api.Conf) { c.Zones = append(c.Zones, api.Zone{}) }},
		{false, func(c *api.Conf) { c.Zones = append(c.Zones, api.Zone{Name: "lan"}) }},
		{false, func(c *api.Conf) { c.Zones = append(c.Zones, api.Zone{Name: "a 5\nzone b", Trust: 5}) }},
		{true, func(c *api.Conf) { c.Ifaces = append(c.Ifaces, api.Iface{Num: 65535, Zone: "dmz"}) }},
		{false, func(c *api.Conf) { c.Ifaces = append(c.Ifaces, api.Iface{Num: 65536, Zone: "dmz"}) }},
		{false, func(c *api.Conf) { c.Ifaces = append(c.Ifaces, api.Iface{Num: -1, Zone: "dmz"}) }},
		{false, func(c *api.Conf) { c.Ifaces = append(c.Ifaces, api.Iface{Num: 2, Zone: "dmz"}) }},
		{false, func(c *api.Conf) { c.Ifaces = append(c.Ifaces, api.Iface{Num: 9, Zone: "any"}) }},
		{false, func(c *api.Conf) { c.Ifaces = append(c.Ifaces, api.Iface{Num: 9, Zone: "new"}) }},
		{false, func(c *api.Conf) { c.Ifaces = append(c.Ifaces, api.Iface{Num: 9}) }},
		{true, func(c *api.Conf) { c.Paths = append(c.Paths, api.Path{Net: v6(0, 0, 0), Num: 0}) }},
		{false, func(c *api.Conf) { c.Paths = append(c.Paths, api.Path{Net: v6(0, 0, 0), Num: 9}) }},
		{false, func(c *api.Conf) { c.Paths = append(c.Paths, api.Path{Net: v4(0, 0), Num: 1}) }},
		{false, func(c *api.Conf) { c.Paths = append(c.Paths, api.Path{Num: 1}) }},
		{false, func(c *api.Conf) { c.Paths = append(c.Paths, api.Path{Net: v4(10<<24+1, 8), Num: 1}) }},
		{true, func(c *api.Conf) { c.Rules[5].From = "lan" }},
		{false, func(c *api.Conf) { c.Rules[5].From = "new" }},
		{false, func(c *api.Conf) { c.Rules[5].To = "" }},
		{false, func(c *api.Conf) { c.Rules[5].To = "Any" }},
		{true, func(c *api.Conf) { c.Rules[5].Src = v6(0, 0, 0) }},
		{false, func(c *api.Conf) { c.Rules[5].Src = api.Prefix{Bits: 1} }},
		{false, func(c *api.Conf) { c.Rules[5].Dst = api.Prefix{Addr: api.Addr{Lo: 1}} }},
		{false, func(c *api.Conf) { c.Rules[5].Dst = v4(1, 31) }},
		{false, func(c *api.Conf) { c.Rules[5].Sport = api.Ports{} }},
		{false, func(c *api.Conf) { c.Rules[5].Dport = api.Ports{Lo: 1, Hi: 65535} }},
		{true, func(c *api.Conf) { c.Rules[5].Sport, c.Rules[5].Proto = api.Ports{}, api.UDP }},
		{false, func(c *api.Conf) { c.Rules[5].Sport, c.Rules[5].Proto = api.Ports{}, api.ICMP }},
		{false, func(c *api.Conf) { c.Rules[5].Proto = 2 }},
		{false, func(c *api.Conf) { c.Rules[5].Action = 2 }},
		{false, func(c *api.Conf) { c.Rules[5].Help = 4 }},
		{false, func(c *api.Conf) { c.Rules[5].Help = api.FTP }},
		{false, func(c *api.Conf) { c.Rules[0].Action = api.Deny }},
		{false, func(c *api.Conf) { c.Rules[0].Help = api.SIP }},
		{false, func(c *api.Conf) { c.Rules[2].Help = api.FTP }},
		{true, func(c *api.Conf) { c.Rules[2].Help = api.TFTP }},
		{true, func(c *api.Conf) { c.Rules[0].Help = api.NoHelp }},
		{false, func(c *api.Conf) { c.Rules[0].Src = v6(0, 0, 0) }},
		{false, func(c *api.Conf) { c.Rules[3].Src = v6(0, 0, 0) }},
		{false, func(c *api.Conf) { c.Rules[4].Dst = v4(0, 0) }},
		{false, func(c *api.Conf) { c.Rules[3].Proto = api.ICMP6 }},
		{false, func(c *api.Conf) { c.Rules[4].Proto = api.ICMP }},
	} {
		got := turned(t, c.turn)
		if conf.Right(got) != c.want {
			t.Errorf("case %d: Right is not %v", i, c.want)
		}
		if s := conf.Show(got); (s != "") != (c.want && !same(got, api.Conf{})) {
			t.Errorf("case %d: Show: %q", i, s)
		}
	}
}

// longer is a list with its first element again and again, till it has n.
func longer[E any](list []E, n int) []E {
	out := make([]E, n)
	for i := range out {
		out[i] = list[i%len(list)]
	}
	return out
}

// P8.2, R1: lists that have more than may be, by one and by far, and long names.
func TestLong(t *testing.T) {
	for kind, most := range map[string]int{"zone": 16, "iface": 32, "path": 64, "rule": 64} {
		c := parsed(t, many(kind, most))
		if !holds(t, c) {
			t.Errorf("%d times %s may not be", most, kind)
		}
		switch kind {
		case "zone":
			c.Zones = append(c.Zones, api.Zone{Name: "more"})
		case "iface":
			c.Ifaces = append(c.Ifaces, api.Iface{Num: 1000, Zone: "a"})
		case "path":
			c.Paths = append(c.Paths, api.Path{Net: v6(0, 0, 0), Num: 9})
		default:
			c.Rules = append(c.Rules, c.Rules[0])
		}
		if holds(t, c) {
			t.Errorf("%d times %s may be", most+1, kind)
		}
	}
	long := strings.Repeat("a", 1<<20)
	for i, c := range []api.Conf{
		turned(t, func(c *api.Conf) { c.Zones = longer(c.Zones, 1<<20) }), turned(t, func(c *api.Conf) { c.Ifaces = longer(c.Ifaces, 1<<20) }),
		turned(t, func(c *api.Conf) { c.Paths = longer(c.Paths, 1<<20) }), turned(t, func(c *api.Conf) { c.Rules = longer(c.Rules, 1<<20) }),
		turned(t, func(c *api.Conf) { c.Zones[1].Name = long }), turned(t, func(c *api.Conf) { c.Ifaces[1].Zone = long }), turned(t, func(c *api.Conf) { c.Rules[1].From = long }), turned(t, func(c *api.Conf) { c.Rules[1].To = long }),
	} {
		if conf.Right(c) || conf.Show(c) != "" || !conf.Same(c, c) {
			t.Errorf("long configuration %d may be", i)
		}
	}
}

// P8.2: what Show writes of each part, and what it leaves out.
func TestShow(t *testing.T) {
	for _, c := range []struct{ line, want string }{
		{"zone Z-_9 0", "zone Z-_9 0"}, {"iface 65535\tlan #", "iface 65535 lan"}, {"path 11.0.0.1 1", "path 11.0.0.1/32 1"}, {"path FE80:0::/10 2", "path fe80::/10 2"}, {"path 1:0:0:2:0:0:0:3 2", "path 1:0:0:2::3/128 2"}, {"path ::/0 0", "path ::/0 0"},
		{"rule any any deny", "rule any any deny"}, {" rule\tlan  wan allow", "rule lan wan allow"}, {"rule any any src 0.0.0.0/0 allow", "rule any any src 0.0.0.0/0 allow"}, {"rule any any dst ::/0 allow", "rule any any dst ::/0 allow"},
		{"rule any any proto tcp sport 0-65535 dport 0-65535 allow", "rule any any proto tcp allow"}, {"rule any any proto udp sport 0 dport 65535 deny", "rule any any proto udp sport 0 dport 65535 deny"},
		{"rule any any proto tcp sport 80-80 dport 0-0 allow", "rule any any proto tcp sport 80 dport 0 allow"}, {"rule any any proto tcp sport 0-1 dport 1-65535 allow", "rule any any proto tcp sport 0-1 dport 1-65535 allow"},
		{"rule any any proto icmp deny", "rule any any proto icmp deny"}, {"rule any any proto icmp6 deny", "rule any any proto icmp6 deny"}, {"rule any any proto tcp allow help ftp", "rule any any proto tcp allow help ftp"},
		{"rule any any proto udp allow help tftp", "rule any any proto udp allow help tftp"}, {"rule any any proto udp allow help sip", "rule any any proto udp allow help sip"},
		{"rule lan wan src ::1 dst ::2 proto udp sport 1 dport 2-3 allow help sip", "rule lan wan src ::1/128 dst ::2/128 proto udp sport 1 dport 2-3 allow help sip"},
	} {
		all := conf.Show(parsed(t, ground+c.line))
		var rest []string
		for line := range strings.Lines(all) {
			if !strings.Contains(ground, line) {
				rest = append(rest, line)
			}
		}
		if len(rest) != 1 || rest[0] != c.want+"\n" || len(all) != len(ground)+len(c.want)+1 {
			t.Errorf("%q: %q", c.line, all)
		}
	}
	mixed := "rule any any allow\nzone a 1\niface 1 a\nrule a any deny\nzone b 2\npath ::/0 1\niface 2 b\npath 0.0.0.0/0 2"
	if s := conf.Show(parsed(t, mixed)); s != "zone a 1\nzone b 2\niface 1 a\niface 2 b\npath ::/0 1\npath 0.0.0.0/0 2\nrule any any allow\nrule a any deny\n" {
		t.Errorf("%q", s)
	}
	if s := conf.Show(api.Conf{}); s != "" {
		t.Errorf("%q", s)
	}
}

// P8.2: Same of configurations that differ in one field, and of such as may not be; nil and empty lists are the same.
func TestSame(t *testing.T) {
	w := whole(t)
	if !conf.Same(w, lists(w)) || !conf.Same(api.Conf{}, lists(api.Conf{})) || !conf.Same(lists(api.Conf{}), api.Conf{}) || conf.Same(w, api.Conf{}) || conf.Same(api.Conf{}, w) {
		t.Error("Same of the same")
	}
	others := turns(t)
	for _, turn := range []func(c *api.Conf){
		func(c *api.Conf) { c.Zones = c.Zones[:2] }, func(c *api.Conf) { c.Ifaces = c.Ifaces[1:] }, func(c *api.Conf) { c.Paths = nil }, func(c *api.Conf) { c.Rules = c.Rules[:5] }, func(c *api.Conf) { c.Rules = append(c.Rules, c.Rules[5]) },
		func(c *api.Conf) { c.Zones[0], c.Zones[1] = c.Zones[1], c.Zones[0] }, func(c *api.Conf) { c.Ifaces[0], c.Ifaces[2] = c.Ifaces[2], c.Ifaces[0] }, func(c *api.Conf) { c.Paths[0], c.Paths[1] = c.Paths[1], c.Paths[0] }, func(c *api.Conf) { c.Rules[4], c.Rules[5] = c.Rules[5], c.Rules[4] },
		func(c *api.Conf) { c.Rules[3].Src.Addr.Hi = 1 }, func(c *api.Conf) { c.Rules[3].Src.Addr.Lo++ }, func(c *api.Conf) { c.Rules[4].Dst.Addr.Hi++ }, func(c *api.Conf) { c.Paths[2].Net.Addr.Lo = 1 << 63 },
	} {
		others = append(others, turned(t, turn))
	}
	unlike := 0
	for i, c := range others {
		want := same(w, c)
		if conf.Same(w, c) != want || conf.Same(c, w) != want || !conf.Same(c, lists(c)) {
			t.Errorf("Same(%v, %v) is not %v", w, c, want)
		}
		if !want {
			unlike++
		}
		if o := others[i*7919%len(others)]; conf.Same(c, o) != same(c, o) {
			t.Errorf("Same(%v, %v) is not %v", c, o, same(c, o))
		}
	}
	if unlike < 2000 {
		t.Error(unlike)
	}
}
