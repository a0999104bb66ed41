package norm_test

import (
	"fmt"
	"math/big"
	"math/rand"
	"slices"
	"testing"

	"stockade/addr"
	"stockade/api"
	"stockade/conf"
	"stockade/norm"
)

// chance picks configurations.
type chance struct{ *rand.Rand }

// bitsOf writes an address's bits as a text, by way of its bytes.
func bitsOf(a api.Addr) string {
	b := addr.Bytes(a)
	if b == nil {
		return ""
	}
	return fmt.Sprintf("%d:%0*b", a.Fam, 8*len(b), new(big.Int).SetBytes(b))
}

// plainWay cuts the address's bits shorter and shorter, till a path is just that.
func plainWay(c api.Conf, a api.Addr) (int, api.Errno) {
	nums := map[string]int{}
	for _, p := range c.Paths {
		nums[bitsOf(p.Net.Addr)[:2+p.Net.Bits]] = p.Num
	}
	whole := bitsOf(a)
	for n := len(whole); n >= 2; n-- {
		if num, there := nums[whole[:n]]; there {
			return num, api.OK
		}
	}
	return 0, api.ErrPath
}

// plainNums are the zones' numbers by their names.
func plainNums(c api.Conf) map[string]int {
	nums := map[string]int{"any": -1}
	for i, z := range c.Zones {
		nums[z.Name] = i
	}
	return nums
}

// net is a prefix near a few others, so that many are nested.
func (r chance) net() api.Prefix {
	a, most := r.address(), 32
	if a.Fam == 6 {
		most = 128
	}
	bits := r.Intn(most + 1)
	if r.Intn(4) == 0 {
		bits = most * r.Intn(2)
	}
	m, _ := addr.Mask(a, bits)
	return api.Prefix{Addr: m, Bits: bits}
}

// address is one that shares its first bits with many others.
func (r chance) address() api.Addr {
	if r.Intn(2) == 0 {
		return api.Addr{Fam: 4, Lo: uint64(0x0a010203 ^ r.Int31n(4)<<r.Intn(30))}
	}
	return api.Addr{Fam: 6, Hi: 0x20010db800010002 ^ uint64(r.Intn(4))<<r.Intn(63), Lo: 1 ^ uint64(r.Intn(4))<<r.Intn(63)}
}

// conf is a configuration that may be.
func (r chance) conf() api.Conf {
	var c api.Conf
	for i := range r.Intn(17) {
		c.Zones = append(c.Zones, api.Zone{Name: fmt.Sprintf("%c%d", 'a'+r.Intn(26), i), Trust: r.Intn(101)})
	}
	for i := range r.Intn(33) {
		if len(c.Zones) > 0 {
			c.Ifaces = append(c.Ifaces, api.Iface{Num: r.Intn(2)*65535 ^ (i*5 + r.Intn(5)), Zone: c.Zones[r.Intn(len(c.Zones))].Name})
		}
	}
	for range r.Intn(65) {
		net := r.net()
		if len(c.Ifaces) > 0 && !slices.ContainsFunc(c.Paths, func(p api.Path) bool { return p.Net == net }) {
			c.Paths = append(c.Paths, api.Path{Net: net, Num: c.Ifaces[r.Intn(len(c.Ifaces))].Num})
		}
	}
	for range r.Intn(65) {
		c.Rules = append(c.Rules, r.line(c))
	}
	return c
}

func (r chance) end(c api.Conf) string {
	if i := r.Intn(len(c.Zones) + 2); i < len(c.Zones) {
		return c.Zones[i].Name
	}
	return "any"
}

func (r chance) ports() api.Ports {
	a, b := r.Intn(65536), r.Intn(65536)
	return api.Ports{Lo: min(a, b), Hi: max(a, b)}
}

func (r chance) line(c api.Conf) api.Line {
	l := api.Line{From: r.end(c), To: r.end(c), Sport: all, Dport: all, Action: r.Intn(2)}
	if r.Intn(2) == 0 {
		l.Src = r.net()
	}
	if net := r.net(); r.Intn(2) == 0 && (l.Src.Addr.Fam == 0 || l.Src.Addr.Fam == net.Addr.Fam) {
		l.Dst = net
	}
	switch fam := max(l.Src.Addr.Fam, l.Dst.Addr.Fam); r.Intn(4) {
	case 0:
		l.Proto, l.Sport, l.Dport = 6, r.ports(), r.ports()
		l.Help = l.Action * r.Intn(2)
	case 1:
		l.Proto, l.Dport = 17, r.ports()
		l.Help = l.Action * (2 + r.Intn(2))
	case 2:
		l.Proto = map[int]int{0: 1, 4: 1, 6: 58}[fam]
	}
	return l
}

// agree holds all answers of a configuration that may be against the chapter's words.
func (r chance) agree(t *testing.T, c api.Conf) (ways, none int) {
	t.Helper()
	nums := plainNums(c)
	var want []api.Rule
	for _, l := range c.Rules {
		want = append(want, api.Rule{From: nums[l.From], To: nums[l.To], Src: l.Src, Dst: l.Dst, Proto: l.Proto, Sport: l.Sport, Dport: l.Dport, Action: l.Action, Help: l.Help})
	}
	wantRules(t, c, want...)
	zones := map[int]int{}
	for _, f := range c.Ifaces {
		zones[f.Num] = nums[f.Zone]
		wantZone(t, c, f.Num, nums[f.Zone], api.OK)
	}
	for _, n := range []int{-1, 0, 65535, 65536, r.Intn(200), r.Intn(65536)} {
		if _, there := zones[n]; !there {
			wantZone(t, c, n, 0, api.ErrIface)
		}
	}
	for i, z := range c.Zones {
		wantTrust(t, c, i, z.Trust, api.OK)
	}
	wantTrust(t, c, -1, 0, api.ErrNone)
	wantTrust(t, c, len(c.Zones), 0, api.ErrNone)
	for range 40 {
		a := r.address()
		way, e := plainWay(c, a)
		wantWay(t, c, a, way, e)
		if e == api.OK {
			ways++
		} else {
			none++
		}
	}
	return ways, none
}

// P9.1 to P9.4: configurations of all kinds against a plain reading of the chapter.
func TestAnyConf(t *testing.T) {
	r := chance{rand.New(rand.NewSource(9))}
	ways, none := 0, 0
	for range 400 {
		c := r.conf()
		if !conf.Right(c) {
			t.Fatalf("%v may not be", c)
		}
		w, n := r.agree(t, c)
		ways, none = ways+w, none+n
	}
	if ways < 1000 || none < 1000 {
		t.Error(ways, none)
	}
}

// P9.4: by their names, the zones of a rule are those of its line, also when the zones stand in another order.
func TestZonesByNames(t *testing.T) {
	r := chance{rand.New(rand.NewSource(4))}
	for range 300 {
		c := r.conf()
		for range 2 {
			rules, e := norm.Rules(c)
			if e != api.OK || len(rules) != len(c.Rules) {
				t.Fatal(len(rules), len(c.Rules), e)
			}
			for i, rule := range rules {
				if from, to := nameOf(c, rule.From), nameOf(c, rule.To); from != c.Rules[i].From || to != c.Rules[i].To {
					t.Errorf("rule %d of %s: %q %q", i, brief(c), from, to)
				}
			}
			r.Shuffle(len(c.Zones), func(i, j int) { c.Zones[i], c.Zones[j] = c.Zones[j], c.Zones[i] })
		}
	}
}

func nameOf(c api.Conf, zone int) string {
	if zone == -1 {
		return "any"
	}
	if zone < 0 || zone >= len(c.Zones) {
		return ""
	}
	return c.Zones[zone].Name
}

// P9.3: the order of the paths turns no way.
func TestPathOrder(t *testing.T) {
	r := chance{rand.New(rand.NewSource(3))}
	for range 300 {
		c := r.conf()
		for range 3 {
			a := r.address()
			way, e := norm.Way(c, a)
			r.Shuffle(len(c.Paths), func(i, j int) { c.Paths[i], c.Paths[j] = c.Paths[j], c.Paths[i] })
			wantWay(t, c, a, way, e)
		}
	}
}

// turn writes something else into one field of a configuration.
func (r chance) turn(c *api.Conf) {
	n := odd[r.Intn(len(odd))]
	if r.Intn(2) == 0 {
		n = r.Intn(70)
	}
	name := []string{"", "any", "a", "a0", "b1", "a b", "\xff"}[r.Intn(7)]
	if i := len(c.Zones); i > 0 && r.Intn(3) == 0 {
		z := &c.Zones[r.Intn(i)]
		*z = []api.Zone{{Name: name, Trust: z.Trust}, {Name: z.Name, Trust: n}}[r.Intn(2)]
	}
	if i := len(c.Ifaces); i > 0 && r.Intn(3) == 0 {
		f := &c.Ifaces[r.Intn(i)]
		*f = []api.Iface{{Num: n, Zone: f.Zone}, {Num: f.Num, Zone: name}}[r.Intn(2)]
	}
	if i := len(c.Paths); i > 0 && r.Intn(3) == 0 {
		p := &c.Paths[r.Intn(i)]
		*p = []api.Path{{Net: p.Net, Num: n}, {Net: api.Prefix{Addr: p.Net.Addr, Bits: n}, Num: p.Num}, {Net: r.net(), Num: p.Num}}[r.Intn(3)]
	}
	if i := len(c.Rules); i > 0 && r.Intn(3) == 0 {
		l := &c.Rules[r.Intn(i)]
		[]func(){func() { l.From = name }, func() { l.To = name }, func() { l.Proto = n }, func() { l.Action = n }, func() { l.Help = n }, func() { l.Sport.Lo = n }, func() { l.Dport.Hi = n }, func() { l.Src.Bits = n }, func() { l.Dst = r.net() }}[r.Intn(9)]()
	}
}

// Configurations of which some things were turned, whether they may be or not; which may be is layer 8's word.
func TestAnyTurned(t *testing.T) {
	r := chance{rand.New(rand.NewSource(7))}
	may, not := 0, 0
	for range 1500 {
		c := r.conf()
		for range 1 + r.Intn(3) {
			r.turn(&c)
		}
		if conf.Right(c) {
			r.agree(t, c)
			may++
		} else {
			refused(t, c)
			not++
		}
	}
	if may < 200 || not < 200 {
		t.Error(may, not)
	}
}
