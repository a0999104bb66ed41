package first_test

import (
	"math"
	"testing"

	"stockade/api"
	"stockade/first"
)

var all = api.Ports{Lo: 0, Hi: 65535}

// odd are numbers that may stand in no field of a key or a rule.
var odd = []int{math.MinInt, math.MinInt + 1, math.MinInt32, -65536, -256, -16, -2, 65536, 1 << 17, math.MaxInt32, 1 << 32, 1<<32 + 1, math.MaxInt - 1, math.MaxInt}

func a4(lo uint64) api.Addr { return api.Addr{Fam: 4, Lo: lo} }

func a6(hi, lo uint64) api.Addr { return api.Addr{Fam: 6, Hi: hi, Lo: lo} }

func v4(lo uint64, bits int) api.Prefix { return api.Prefix{Addr: a4(lo), Bits: bits} }

func v6(hi, lo uint64, bits int) api.Prefix { return api.Prefix{Addr: a6(hi, lo), Bits: bits} }

// anything is a rule that takes every key.
func anything() api.Rule {
	return api.Rule{From: -1, To: -1, Sport: all, Dport: all}
}

// ruleWith is the rule that takes every key, but for what is written into it.
func ruleWith(write func(r *api.Rule)) api.Rule {
	r := anything()
	write(&r)
	return r
}

// middle is a key with something in every field.
func middle() api.Key {
	return api.Key{From: 3, To: 5, Src: a4(10<<24 + 1), Dst: a4(11<<24 + 2), Proto: api.TCP, Sport: 1000, Dport: 80}
}

// middle6 is one of family 6.
func middle6() api.Key {
	k := middle()
	k.Src, k.Dst = a6(0x20010db8<<32, 1), a6(0xfe80<<48, 2)
	return k
}

func keyWith(write func(k *api.Key)) api.Key {
	k := middle()
	write(&k)
	return k
}

// exact is a rule that takes the key alone.
func exact(k api.Key) api.Rule {
	bits := 32
	if k.Src.Fam == 6 {
		bits = 128
	}
	return api.Rule{From: k.From, To: k.To, Src: api.Prefix{Addr: k.Src, Bits: bits}, Dst: api.Prefix{Addr: k.Dst, Bits: bits}, Proto: k.Proto,
		Sport: api.Ports{Lo: k.Sport, Hi: k.Sport}, Dport: api.Ports{Lo: k.Dport, Hi: k.Dport}, Action: api.Allow, Help: api.FTP}
}

func wantKey(t testing.TB, k api.Key, want bool) {
	t.Helper()
	if got := first.RightKey(k); got != want {
		t.Errorf("RightKey(%+v): %v", k, got)
	}
}

func wantRule(t testing.TB, r api.Rule, want bool) {
	t.Helper()
	if got := first.RightRule(r); got != want {
		t.Errorf("RightRule(%+v): %v", r, got)
	}
}

func wantTakes(t testing.TB, r api.Rule, k api.Key, want bool) {
	t.Helper()
	if got := first.Takes(r, k); got != want {
		t.Errorf("Takes(%+v, %+v): %v", r, k, got)
	}
}

// wantFind asks for the place of the rule that takes a key; -1: for none.
func wantFind(t testing.TB, rules []api.Rule, k api.Key, want int) {
	t.Helper()
	if got, ok := first.Find(rules, k); got != want || ok != (want >= 0) {
		t.Errorf("Find(%d rules, %+v): %d %v, want %d", len(rules), k, got, ok, want)
	}
}

// The chapter's example.
func TestExample(t *testing.T) {
	tcp := ruleWith(func(r *api.Rule) { r.Proto = api.TCP })
	rest := ruleWith(func(r *api.Rule) { r.Action = api.Allow })
	rules := []api.Rule{tcp, rest}
	wantFind(t, rules, keyWith(func(k *api.Key) { k.Proto = api.UDP }), 1)
	wantFind(t, rules, keyWith(func(k *api.Key) { k.Proto = api.TCP }), 0)
	wantKeep(t, rules, 0, 1)
}

// P10.1: which keys may be, at the edges of each field.
func TestRightKey(t *testing.T) {
	wantKey(t, middle(), true)
	wantKey(t, middle6(), true)
	wantKey(t, api.Key{}, false)
	wantKey(t, api.Key{Src: a4(0), Dst: a4(0)}, true)
	wantKey(t, api.Key{Src: a6(0, 0), Dst: a6(0, 0)}, true)
	for _, c := range []struct {
		n                 int
		zone, proto, port bool
	}{
		{-2, false, false, false}, {-1, false, false, false}, {0, true, true, true}, {1, true, true, true},
		{14, true, true, true}, {15, true, true, true}, {16, false, true, true}, {17, false, true, true},
		{254, false, true, true}, {255, false, true, true}, {256, false, false, true}, {257, false, false, true},
		{65534, false, false, true}, {65535, false, false, true}, {65536, false, false, false},
	} {
		wantKey(t, keyWith(func(k *api.Key) { k.From = c.n }), c.zone)
		wantKey(t, keyWith(func(k *api.Key) { k.To = c.n }), c.zone)
		wantKey(t, keyWith(func(k *api.Key) { k.Proto = c.n }), c.proto)
		wantKey(t, keyWith(func(k *api.Key) { k.Sport = c.n }), c.port)
		wantKey(t, keyWith(func(k *api.Key) { k.Dport = c.n }), c.port)
	}
	for _, c := range []struct {
		src, dst api.Addr
		want     bool
	}{
		{a4(0), a4(1<<32 - 1), true}, {a4(1<<32 - 1), a4(0), true},
		{a6(0, 0), a6(math.MaxUint64, math.MaxUint64), true}, {a6(math.MaxUint64, math.MaxUint64), a6(0, 0), true},
		{a4(1), a6(0, 1), false}, {a6(0, 1), a4(1), false},
		{a4(1 << 32), a4(1), false}, {a4(1), a4(1 << 32), false},
		{api.Addr{Fam: 4, Hi: 1}, a4(1), false}, {a4(1), api.Addr{Fam: 4, Hi: 1}, false},
		{api.Addr{}, api.Addr{}, false}, {api.Addr{Fam: 5}, api.Addr{Fam: 5}, false}, {api.Addr{Fam: -4}, api.Addr{Fam: -4}, false},
		{a4(1), api.Addr{}, false}, {api.Addr{}, a4(1), false}, {a6(0, 1), api.Addr{}, false}, {api.Addr{}, a6(0, 1), false},
	} {
		wantKey(t, keyWith(func(k *api.Key) { k.Src, k.Dst = c.src, c.dst }), c.want)
	}
}

// P10.1: which rules may be, at the edges of each number.
func TestRightRule(t *testing.T) {
	wantRule(t, anything(), true)
	wantRule(t, api.Rule{}, true)
	wantRule(t, exact(middle()), true)
	wantRule(t, exact(middle6()), true)
	for _, c := range []struct {
		n                         int
		zone, proto, action, help bool
	}{
		{-2, false, false, false, false}, {-1, true, false, false, false}, {0, true, true, true, true}, {1, true, true, true, true},
		{2, true, true, false, true}, {3, true, true, false, true}, {4, true, true, false, false}, {15, true, true, false, false},
		{16, false, true, false, false}, {17, false, true, false, false}, {255, false, true, false, false}, {256, false, false, false, false},
	} {
		wantRule(t, ruleWith(func(r *api.Rule) { r.From = c.n }), c.zone)
		wantRule(t, ruleWith(func(r *api.Rule) { r.To = c.n }), c.zone)
		wantRule(t, ruleWith(func(r *api.Rule) { r.Proto = c.n }), c.proto)
		wantRule(t, ruleWith(func(r *api.Rule) { r.Action = c.n }), c.action)
		wantRule(t, ruleWith(func(r *api.Rule) { r.Help = c.n }), c.help)
	}
}

// P10.1: which ports of a rule may be.
func TestRightPorts(t *testing.T) {
	for _, c := range []struct {
		p    api.Ports
		want bool
	}{
		{api.Ports{}, true}, {all, true}, {api.Ports{Lo: 65535, Hi: 65535}, true}, {api.Ports{Lo: 7, Hi: 7}, true}, {api.Ports{Lo: 7, Hi: 8}, true},
		{api.Ports{Lo: 8, Hi: 7}, false}, {api.Ports{Lo: 1, Hi: 0}, false}, {api.Ports{Lo: 65535, Hi: 65534}, false}, {api.Ports{Lo: 65535}, false},
		{api.Ports{Lo: -1, Hi: 7}, false}, {api.Ports{Lo: -1, Hi: -1}, false}, {api.Ports{Lo: 0, Hi: -1}, false},
		{api.Ports{Lo: 0, Hi: 65536}, false}, {api.Ports{Lo: 65536, Hi: 65536}, false}, {api.Ports{Lo: math.MinInt, Hi: math.MaxInt}, false},
	} {
		wantRule(t, ruleWith(func(r *api.Rule) { r.Sport = c.p }), c.want)
		wantRule(t, ruleWith(func(r *api.Rule) { r.Dport = c.p }), c.want)
	}
}

// nets are prefixes that may be in a rule, and ones that may not.
func nets() map[api.Prefix]bool {
	return map[api.Prefix]bool{
		{}:                                  true,
		v4(0, 0):                            true,
		v4(0, 32):                           true,
		v4(1<<32-1, 32):                     true,
		v4(10<<24, 8):                       true,
		v6(0, 0, 0):                         true,
		v6(0, 0, 128):                       true,
		v6(0, 1, 128):                       true,
		v6(0xfe80<<48, 0, 10):               true,
		v6(1, 0, 64):                        true,
		{Bits: 1}:                           false,
		{Bits: -1}:                          false,
		{Addr: api.Addr{Lo: 1}}:             false,
		{Addr: api.Addr{Hi: 1}}:             false,
		{Addr: api.Addr{Fam: 5}}:            false,
		{Addr: api.Addr{Fam: 4, Hi: 1}}:     false,
		v4(0, -1):                           false,
		v4(0, 33):                           false,
		v4(0, 128):                          false,
		v4(10<<24, 6):                       false,
		v4(10<<24+1, 31):                    false,
		v4(1<<32, 32):                       false,
		v6(0, 0, -1):                        false,
		v6(0, 0, 129):                       false,
		v6(0, 1, 127):                       false,
		v6(1, 0, 63):                        false,
		v6(0, 1, 0):                         false,
		{Addr: a4(0), Bits: math.MaxInt}:    false,
		{Addr: a6(0, 0), Bits: math.MinInt}: false,
	}
}

// P10.1: the prefixes of both sides, of both families, also unlike ones.
func TestRightNets(t *testing.T) {
	for src, ok := range nets() {
		for dst, also := range nets() {
			wantRule(t, ruleWith(func(r *api.Rule) { r.Src, r.Dst = src, dst }), ok && also)
		}
	}
}

// P10.1: the zones that a rule takes.
func TestTakesZones(t *testing.T) {
	for of := -2; of <= 16; of++ {
		for n := -2; n <= 16; n++ {
			may := n >= 0 && n <= 15 && of >= -1 && of <= 15
			want := may && (of == -1 || of == n)
			wantTakes(t, ruleWith(func(r *api.Rule) { r.From = of }), keyWith(func(k *api.Key) { k.From = n }), want)
			wantTakes(t, ruleWith(func(r *api.Rule) { r.To = of }), keyWith(func(k *api.Key) { k.To = n }), want)
			wantTakes(t, ruleWith(func(r *api.Rule) { r.From = of }), keyWith(func(k *api.Key) { k.From, k.To = 3, n }), may && (of == -1 || of == 3))
		}
	}
}

// P10.1: the addresses that a rule takes.
func TestTakesAddrs(t *testing.T) {
	for _, c := range []struct {
		p    api.Prefix
		a    api.Addr
		want bool
	}{
		{api.Prefix{}, a4(0), true}, {api.Prefix{}, a4(1<<32 - 1), true}, {api.Prefix{}, a6(0, 0), true}, {api.Prefix{}, a6(math.MaxUint64, 7), true},
		{v4(0, 0), a4(0), true}, {v4(0, 0), a4(1<<32 - 1), true}, {v4(0, 0), a6(0, 0), false}, {v4(0, 0), a6(0, 1), false},
		{v6(0, 0, 0), a6(0, 0), true}, {v6(0, 0, 0), a6(math.MaxUint64, math.MaxUint64), true}, {v6(0, 0, 0), a4(0), false}, {v6(0, 0, 0), a4(1), false},
		{v4(7, 32), a4(7), true}, {v4(7, 32), a4(6), false}, {v4(7, 32), a4(8), false}, {v4(7, 32), a6(0, 7), false},
		{v6(0, 7, 128), a6(0, 7), true}, {v6(0, 7, 128), a6(0, 6), false}, {v6(0, 7, 128), a6(1, 7), false}, {v6(0, 7, 128), a4(7), false},
		{v4(10<<24, 8), a4(10 << 24), true}, {v4(10<<24, 8), a4(11<<24 - 1), true}, {v4(10<<24, 8), a4(11 << 24), false}, {v4(10<<24, 8), a4(10<<24 - 1), false},
		{v6(1, 0, 64), a6(1, math.MaxUint64), true}, {v6(1, 0, 64), a6(2, 0), false}, {v6(1, 0, 64), a6(0, math.MaxUint64), false},
		{v6(0, 0, 65), a6(0, 1<<63-1), true}, {v6(0, 0, 65), a6(0, 1<<63), false},
		{v4(0, 33), a4(0), false}, {v4(10<<24+1, 8), a4(10<<24 + 1), false}, {v4(1, 0), a4(1), false}, {api.Prefix{Bits: 1}, a4(1), false},
		{v4(0, 0), a4(1 << 32), false}, {api.Prefix{}, a4(1 << 32), false}, {api.Prefix{}, api.Addr{}, false}, {api.Prefix{}, api.Addr{Fam: 5}, false},
	} {
		other := api.Addr{Fam: c.a.Fam, Lo: 99}
		wantTakes(t, ruleWith(func(r *api.Rule) { r.Src = c.p }), keyWith(func(k *api.Key) { k.Src, k.Dst = c.a, other }), c.want)
		wantTakes(t, ruleWith(func(r *api.Rule) { r.Dst = c.p }), keyWith(func(k *api.Key) { k.Src, k.Dst = other, c.a }), c.want)
		wantTakes(t, ruleWith(func(r *api.Rule) { r.Src, r.Dst = c.p, c.p }), keyWith(func(k *api.Key) { k.Src, k.Dst = c.a, c.a }), c.want)
	}
}

// P10.1: a rule whose sides are of unlike families may be, and takes nothing.
func TestUnlikeFamilies(t *testing.T) {
	r := ruleWith(func(r *api.Rule) { r.Src, r.Dst = v4(0, 0), v6(0, 0, 0) })
	wantRule(t, r, true)
	wantTakes(t, r, middle(), false)
	wantTakes(t, r, middle6(), false)
	mixed := keyWith(func(k *api.Key) { k.Src, k.Dst = a4(0), a6(0, 0) })
	wantTakes(t, r, mixed, false)
	wantTakes(t, anything(), mixed, false)
	wantFind(t, []api.Rule{r, anything()}, mixed, -1)
	wantFind(t, []api.Rule{r, anything()}, middle(), 1)
}

// P10.1: each protocol with each.
func TestTakesProto(t *testing.T) {
	for of := -1; of <= 256; of++ {
		for n := -1; n <= 256; n++ {
			may := n >= 0 && n <= 255 && of >= 0 && of <= 255
			want := may && (of == 0 || of == n)
			wantTakes(t, ruleWith(func(r *api.Rule) { r.Proto = of }), keyWith(func(k *api.Key) { k.Proto = n }), want)
		}
	}
}

// P10.1: ports at both ends of a range, and beside it; both ends count.
func TestTakesPorts(t *testing.T) {
	for _, p := range []api.Ports{{}, all, {Lo: 0, Hi: 1}, {Lo: 1, Hi: 65534}, {Lo: 80, Hi: 80}, {Lo: 80, Hi: 90}, {Lo: 65535, Hi: 65535}, {Lo: 90, Hi: 80}, {Lo: -1, Hi: 80}, {Lo: 80, Hi: 65536}} {
		right := p.Lo >= 0 && p.Lo <= p.Hi && p.Hi <= 65535
		for _, n := range []int{-1, 0, 1, 2, 79, 80, 81, 85, 89, 90, 91, 65533, 65534, 65535, 65536} {
			want := right && n >= 0 && n <= 65535 && n >= p.Lo && n <= p.Hi
			wantTakes(t, ruleWith(func(r *api.Rule) { r.Sport = p }), keyWith(func(k *api.Key) { k.Sport = n }), want)
			wantTakes(t, ruleWith(func(r *api.Rule) { r.Dport = p }), keyWith(func(k *api.Key) { k.Dport = n }), want)
		}
	}
}

// P10.1: what a rule does and whom it has for help is no part of what it takes; but it must be something that may be.
func TestTakesWhateverItDoes(t *testing.T) {
	for n := -2; n <= 5; n++ {
		wantTakes(t, ruleWith(func(r *api.Rule) { r.Action = n }), middle(), n == 0 || n == 1)
		wantTakes(t, ruleWith(func(r *api.Rule) { r.Help = n }), middle(), n >= 0 && n <= 3)
	}
}

// strays are keys that differ from the middle one in one field, and may be.
func strays() []api.Key {
	return []api.Key{
		keyWith(func(k *api.Key) { k.From = 5 }),
		keyWith(func(k *api.Key) { k.To = 3 }),
		keyWith(func(k *api.Key) { k.Src = k.Dst }),
		keyWith(func(k *api.Key) { k.Dst = k.Src }),
		keyWith(func(k *api.Key) { k.Proto = api.UDP }),
		keyWith(func(k *api.Key) { k.Sport = 80 }),
		keyWith(func(k *api.Key) { k.Dport = 1000 }),
		keyWith(func(k *api.Key) { k.From, k.To = k.To, k.From }),
		keyWith(func(k *api.Key) { k.Src, k.Dst = k.Dst, k.Src }),
		keyWith(func(k *api.Key) { k.Sport, k.Dport = k.Dport, k.Sport }),
		middle6(),
	}
}

// P10.1: a rule for one key takes no other; each field counts, for itself.
func TestTakesOne(t *testing.T) {
	wantTakes(t, exact(middle()), middle(), true)
	wantTakes(t, exact(middle6()), middle6(), true)
	for _, k := range strays() {
		wantTakes(t, exact(middle()), k, false)
		wantTakes(t, exact(k), k, true)
		wantTakes(t, anything(), k, true)
	}
}

// P10.2: no rules, one, several that take a key, one twice, and ones that may not be among them.
func TestFind(t *testing.T) {
	k := middle()
	wantFind(t, nil, k, -1)
	wantFind(t, []api.Rule{}, k, -1)
	wantFind(t, []api.Rule{anything()}, k, 0)
	no := exact(middle6())
	wantFind(t, []api.Rule{no}, k, -1)
	wantFind(t, []api.Rule{no, no, no}, k, -1)
	wantFind(t, []api.Rule{no, exact(k), anything(), exact(k)}, k, 1)
	wantFind(t, []api.Rule{exact(k), exact(k)}, k, 0)
	wantFind(t, []api.Rule{anything(), exact(k)}, k, 0)
	bad := ruleWith(func(r *api.Rule) { r.Action = 2 })
	wantFind(t, []api.Rule{bad}, k, -1)
	wantFind(t, []api.Rule{bad, no, bad, anything()}, k, 3)
	for n := range 70 {
		rules := make([]api.Rule, n)
		for i := range rules {
			rules[i] = no
		}
		wantFind(t, append(rules, anything(), exact(k)), k, n)
	}
}

// P10.2: of rules for one key each, each key finds its own.
func TestFindEach(t *testing.T) {
	keys := append(strays(), middle())
	var rules []api.Rule
	for _, k := range keys {
		rules = append(rules, exact(k))
	}
	for i, k := range keys {
		wantFind(t, rules, k, i)
		wantFind(t, rules[:i], k, -1)
		wantFind(t, rules[i+1:], k, -1)
	}
}
