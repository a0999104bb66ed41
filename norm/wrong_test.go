package norm_test

import (
	"fmt"
	"math"
	"slices"
	"strings"
	"testing"

	"stockade/api"
	"stockade/conf"
	"stockade/norm"
)

// whole is a configuration that has something in every field.
func whole(t testing.TB) api.Conf {
	t.Helper()
	return parsed(t, ground+`rule lan wan src 10.0.0.0/8 dst 11.0.0.1 proto tcp sport 1-2 dport 21 allow help ftp
rule any dmz src ::1 dst fe80::/10 proto udp sport 5 dport 69-70 allow help tftp
rule dmz any proto udp dport 5060 allow help sip
rule wan any src 10.0.0.1 proto icmp deny
rule wan any dst ::/0 proto icmp6 allow
rule any any deny
`)
}

// turn writes something wrong into a configuration.
type turn func(c *api.Conf)

// wrong are configurations that differ from the whole one in one field, and may not be, and such as are too long.
func wrong(t testing.TB) []api.Conf {
	t.Helper()
	var list []api.Conf
	for _, turn := range slices.Concat(wrongNames(), wrongNumbers(), wrongParts()) {
		c := copied(whole(t))
		turn(&c)
		list = append(list, c)
	}
	return append(list, long(t)...)
}

func wrongNames() []turn {
	var list []turn
	add := func(f turn) { list = append(list, f) }
	for _, name := range []string{"", "any", "lan", "0", "9lan", "-", "_a", "a b", "a\n", "dmz#", "a.b", "\xff", "abcdefghijklmnopq", strings.Repeat("a", 100000)} {
		add(func(c *api.Conf) { c.Zones[2].Name = name })
		if name == "lan" || name == "any" {
			continue
		}
		add(func(c *api.Conf) { c.Rules[5].From = name })
		add(func(c *api.Conf) { c.Rules[5].To = name })
		add(func(c *api.Conf) { c.Ifaces[2].Zone = name })
	}
	add(func(c *api.Conf) { c.Ifaces[0].Zone = "any" })
	add(func(c *api.Conf) { c.Ifaces[0].Zone = "Lan" })
	return list
}

func wrongNumbers() []turn {
	var list []turn
	add := func(f turn) { list = append(list, f) }
	for _, n := range odd {
		add(func(c *api.Conf) { c.Zones[1].Trust = n })
		add(func(c *api.Conf) { c.Ifaces[0].Num = n })
		add(func(c *api.Conf) { c.Paths[0].Num = n })
		add(func(c *api.Conf) { c.Paths[1].Net.Bits = n })
		add(func(c *api.Conf) { c.Paths[1].Net.Addr.Fam = n })
		add(func(c *api.Conf) { c.Rules[5].Action = n })
		add(func(c *api.Conf) { c.Rules[5].Help = n })
		add(func(c *api.Conf) { c.Rules[5].Proto = n })
		add(func(c *api.Conf) { c.Rules[2].Sport.Lo = n })
		add(func(c *api.Conf) { c.Rules[2].Sport.Hi = n })
		add(func(c *api.Conf) { c.Rules[2].Dport.Lo = n })
		add(func(c *api.Conf) { c.Rules[2].Dport.Hi = n })
		add(func(c *api.Conf) { c.Rules[3].Src.Bits = n })
		add(func(c *api.Conf) { c.Rules[4].Dst.Bits = n })
		add(func(c *api.Conf) { c.Rules[3].Src.Addr.Fam = n })
		add(func(c *api.Conf) { c.Rules[4].Dst.Addr.Fam = n })
	}
	return list
}

func wrongParts() []turn {
	return []turn{
		func(c *api.Conf) { c.Zones = nil },
		func(c *api.Conf) { c.Zones = c.Zones[:2] },
		func(c *api.Conf) { c.Ifaces = nil },
		func(c *api.Conf) { c.Ifaces = c.Ifaces[:2] },
		func(c *api.Conf) { c.Zones[0].Trust = 101 },
		func(c *api.Conf) { c.Ifaces[2].Num = 1 },
		func(c *api.Conf) { c.Ifaces[2].Num = 3 },
		func(c *api.Conf) { c.Paths[2].Num = 3 },
		func(c *api.Conf) { c.Paths[1].Net = c.Paths[0].Net },
		func(c *api.Conf) { c.Paths[1].Net = api.Prefix{} },
		func(c *api.Conf) { c.Paths[0].Net.Addr.Lo++ },
		func(c *api.Conf) { c.Paths[0].Net.Addr.Hi = 1 },
		func(c *api.Conf) { c.Paths[2].Net.Addr.Lo = 1 },
		func(c *api.Conf) { c.Rules[0].Action = api.Deny },
		func(c *api.Conf) { c.Rules[0].Help = api.SIP },
		func(c *api.Conf) { c.Rules[0].Proto = api.UDP },
		func(c *api.Conf) { c.Rules[0].Src = v6(0, 0, 0) },
		func(c *api.Conf) { c.Rules[0].Dst = v4(1, 31) },
		func(c *api.Conf) { c.Rules[1].Proto = 0 },
		func(c *api.Conf) { c.Rules[2].Dport = api.Ports{Lo: 6, Hi: 5} },
		func(c *api.Conf) { c.Rules[3].Proto = api.ICMP6 },
		func(c *api.Conf) { c.Rules[4].Proto = api.ICMP },
		func(c *api.Conf) { c.Rules[5].Sport = api.Ports{} },
		func(c *api.Conf) { c.Rules[5].Dport.Lo = 1 },
		func(c *api.Conf) { c.Rules[5].Src = api.Prefix{Bits: 1} },
		func(c *api.Conf) { c.Rules[5].Dst = api.Prefix{Addr: api.Addr{Lo: 1}} },
		func(c *api.Conf) { c.Rules[5].Help = api.FTP },
		func(c *api.Conf) { c.Rules[5].Help = 4 },
		func(c *api.Conf) { c.Rules[5].Action = 2 },
		func(c *api.Conf) { c.Rules[5].Proto = 2 },
	}
}

// repeated is a list with its elements again and again, till it has n.
func repeated[E any](list []E, n int) []E {
	out := make([]E, n)
	for i := range out {
		out[i] = list[i%len(list)]
	}
	return out
}

// long are configurations whose lists have one element more than may be, or very many.
func long(t testing.TB) []api.Conf {
	t.Helper()
	w := whole(t)
	var list []api.Conf
	for _, n := range []int{65, 1 << 18} {
		list = append(list, api.Conf{Rules: repeated(w.Rules[5:], n)}, api.Conf{Zones: repeated(w.Zones, n)},
			api.Conf{Zones: w.Zones, Ifaces: repeated(w.Ifaces, n)}, api.Conf{Zones: w.Zones, Ifaces: w.Ifaces, Paths: repeated(w.Paths, n)})
	}
	zones, ifaces, paths := copied(w), copied(w), copied(w)
	for i := 0; len(zones.Zones) < 17; i++ {
		zones.Zones = append(zones.Zones, api.Zone{Name: fmt.Sprint("z", i)})
	}
	for i := 0; len(ifaces.Ifaces) < 33; i++ {
		ifaces.Ifaces = append(ifaces.Ifaces, api.Iface{Num: 100 + i, Zone: "lan"})
	}
	for i := 0; len(paths.Paths) < 65; i++ {
		paths.Paths = append(paths.Paths, api.Path{Net: v4(uint64(i)<<8, 24), Num: 1})
	}
	return append(list, zones, ifaces, paths)
}

// refused asks all four calls of a configuration that may not be, whatever else they are asked for.
func refused(t testing.TB, c api.Conf) {
	t.Helper()
	if got, e := norm.Rules(c); len(got) != 0 || e != api.ErrArg {
		t.Errorf("Rules(%s): %v %v", brief(c), got, e)
	}
	for _, n := range []int{-1, 0, 1, 2, 3, 16, 65535, 65536, math.MinInt, math.MaxInt} {
		wantZone(t, c, n, 0, api.ErrArg)
		wantTrust(t, c, n, 0, api.ErrArg)
	}
	for _, a := range []api.Addr{{}, {Fam: 4, Lo: 10<<24 + 1}, {Fam: 4}, {Fam: 6, Hi: 0x20010db800000000}, {Fam: 6}, {Fam: 5}, {Fam: 4, Lo: 1 << 32}} {
		wantWay(t, c, a, 0, api.ErrArg)
	}
}

// Of a configuration that may not be each call answers ErrArg, also if no zone, iface or path that is asked for is there.
func TestWrong(t *testing.T) {
	list := wrong(t)
	if len(list) < 300 {
		t.Error(len(list))
	}
	for _, c := range list {
		if conf.Right(c) {
			t.Errorf("%s may be", brief(c))
		}
		refused(t, c)
	}
}

// What is wrong in one part is told by calls that look at other parts, too; with that part right, they answer.
func TestWrongElsewhere(t *testing.T) {
	c := parsed(t, example)
	c.Rules[1].To = "dmz"
	refused(t, c)
	c.Rules[1].To = "any"
	c.Paths[0].Num = 2
	refused(t, c)
	c.Paths[0].Num = 1
	c.Ifaces[0].Zone = "any"
	refused(t, c)
	c.Ifaces[0].Zone = "wan"
	c.Zones[0].Trust = -1
	refused(t, c)
	c.Zones[0].Trust = 0
	wantZone(t, c, 1, 1, api.OK)
	wantTrust(t, c, 0, 0, api.OK)
	wantWay(t, c, address(t, "10.0.0.1"), 1, api.OK)
	if got, e := norm.Rules(c); len(got) != 2 || e != api.OK {
		t.Error(got, e)
	}
}

// roomy is a configuration whose lists have room behind them, in which something stands.
func roomy(c api.Conf) api.Conf {
	return api.Conf{
		Zones:  append(copied(c).Zones, api.Zone{Name: "behind", Trust: 3})[:len(c.Zones)],
		Ifaces: append(copied(c).Ifaces, api.Iface{Num: 9, Zone: "behind"})[:len(c.Ifaces)],
		Paths:  append(copied(c).Paths, api.Path{Net: v4(9<<24, 8), Num: 9})[:len(c.Paths)],
		Rules:  append(copied(c).Rules, api.Line{From: "behind", Proto: 9})[:len(c.Rules)],
	}
}

// reached is all that a configuration's lists have, also in the room behind them.
func reached(c api.Conf) string {
	return fmt.Sprintf("%#v %#v %#v %#v", c.Zones[:cap(c.Zones)], c.Ifaces[:cap(c.Ifaces)], c.Paths[:cap(c.Paths)], c.Rules[:cap(c.Rules)])
}

// askAll makes every call once, and more.
func askAll(t testing.TB, c api.Conf) string {
	t.Helper()
	rules, e := norm.Rules(c)
	said := fmt.Sprint(rules, e)
	for n := -2; n < 20; n++ {
		zone, e := norm.ZoneOf(c, n)
		trust, f := norm.Trust(c, n)
		said += fmt.Sprint(zone, e, trust, f)
	}
	for _, a := range steps(t) {
		way, e := norm.Way(c, a)
		said += fmt.Sprint(way, e)
	}
	return said
}

// R4: no call turns the configuration, right or wrong, or what stands in the room behind its lists; what stands there has no part in the answers.
func TestNotTurned(t *testing.T) {
	for _, c := range append(wrong(t)[:100], whole(t), parsed(t, example), api.Conf{}, full(t, func(i int) int { return i % 16 }, func(i int) int { return i })) {
		r := roomy(c)
		was := reached(r)
		if askAll(t, r) != askAll(t, copied(c)) {
			t.Errorf("%s: what stands behind the lists is answered", brief(c))
		}
		if reached(r) != was {
			t.Errorf("%s was turned", brief(c))
		}
	}
}

// R4: rules that were answered may be written over, and written behind: neither the configuration nor other answers turn.
func TestRulesAreTheCallers(t *testing.T) {
	c := roomy(whole(t))
	was := reached(c)
	first, _ := norm.Rules(c)
	second, _ := norm.Rules(c)
	want := slices.Clone(first)
	for i := range first {
		first[i] = api.Rule{From: 99, To: 98, Proto: 97, Src: v4(1, 32), Dst: v6(1, 1, 128), Sport: api.Ports{Lo: 1, Hi: 2}, Action: 7, Help: 8}
	}
	_ = append(first[:0], make([]api.Rule, cap(first))...)
	if !slices.Equal(second, want) || len(want) != len(c.Rules) {
		t.Error("a second answer was turned")
	}
	wantRules(t, c, want...)
	if reached(c) != was {
		t.Error("the configuration was turned")
	}
}

// R3, R4: nothing is kept: a configuration that is written over after a call is asked as it stands then, and answers of one do not hang on calls with others between.
func TestNothingKept(t *testing.T) {
	c := copied(whole(t))
	kept, _ := norm.Rules(c)
	want := slices.Clone(kept)
	said := askAll(t, c)
	c.Zones[0], c.Zones[1] = c.Zones[1], c.Zones[0]
	c.Ifaces[0].Num, c.Ifaces[1].Num = c.Ifaces[1].Num, c.Ifaces[0].Num
	c.Rules[0].Sport.Lo = 2
	if !slices.Equal(kept, want) {
		t.Error("rules that were answered were turned")
	}
	if askAll(t, c) == said {
		t.Error("what was turned is not seen")
	}
	wantTrust(t, c, 0, 10, api.OK)
	wantZone(t, c, 1, 0, api.OK)
	askAll(t, wrong(t)[0])
	askAll(t, api.Conf{})
	if again := askAll(t, whole(t)); again != said {
		t.Error("an answer hangs on calls ahead")
	}
}
