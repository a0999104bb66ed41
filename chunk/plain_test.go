package chunk_test

import (
	"fmt"
	"math/big"
	"math/rand"
	"slices"
	"testing"

	"stockade/addr"
	"stockade/api"
	"stockade/chunk"
	"stockade/first"
)

// A plain reading of the chapter, in which a point is one great number: A, B and C behind one another.

func great(p api.Point) *big.Int {
	n := new(big.Int)
	for _, part := range []uint64{p.A, p.B, p.C} {
		n.Lsh(n, 64)
		n.Add(n, new(big.Int).SetUint64(part))
	}
	return n
}

// point is the way back.
func point(n *big.Int) api.Point {
	low := new(big.Int).SetUint64(most)
	part := func(shift uint) uint64 {
		x := new(big.Int).Rsh(n, shift)
		return x.And(x, low).Uint64()
	}
	return pt(part(128), part(64), part(0))
}

// span is a piece: from its first number on, ahead of its end (nil: none).
type span struct{ from, end *big.Int }

func (s span) holds(n *big.Int) bool {
	return s.from.Cmp(n) <= 0 && (s.end == nil || n.Cmp(s.end) < 0)
}

func spanOf(r api.Rule, dim int) span {
	numbers := func(lo, hi int) span { return span{big.NewInt(int64(lo)), big.NewInt(int64(hi) + 1)} }
	number := func(n, every int) span {
		if n == every {
			return span{from: new(big.Int)}
		}
		return numbers(n, n)
	}
	net := func(p api.Prefix) span {
		bits := map[int]int{4: 32, 6: 128}[p.Addr.Fam]
		if bits == 0 {
			return span{from: new(big.Int)}
		}
		from := great(pt(uint64(p.Addr.Fam), p.Addr.Hi, p.Addr.Lo))
		size := new(big.Int).Lsh(big.NewInt(1), uint(bits-p.Bits))
		return span{from, size.Add(size, from)}
	}
	return []func() span{
		func() span { return number(r.From, -1) },
		func() span { return number(r.To, -1) },
		func() span { return net(r.Src) },
		func() span { return net(r.Dst) },
		func() span { return number(r.Proto, 0) },
		func() span { return numbers(r.Sport.Lo, r.Sport.Hi) },
		func() span { return numbers(r.Dport.Lo, r.Dport.Hi) },
	}[dim]()
}

// plainSet are the places of the rules whose pieces hold a number.
func plainSet(rules []api.Rule, dim int, n *big.Int) []int {
	var set []int
	for i, r := range rules {
		if spanOf(r, dim).holds(n) {
			set = append(set, i)
		}
	}
	return set
}

func plainCut(rules []api.Rule, dim int) api.Chunk {
	marks := []*big.Int{new(big.Int)}
	for _, r := range rules {
		s := spanOf(r, dim)
		marks = append(marks, s.from)
		if s.end != nil {
			marks = append(marks, s.end)
		}
	}
	slices.SortFunc(marks, (*big.Int).Cmp)
	marks = slices.CompactFunc(marks, func(a, b *big.Int) bool { return a.Cmp(b) == 0 })
	var c api.Chunk
	names := map[string]int{}
	for _, n := range marks {
		set := plainSet(rules, dim, n)
		name := fmt.Sprint(set)
		if _, there := names[name]; !there {
			names[name] = len(names)
			c.Sets = append(c.Sets, set)
		}
		c.Starts = append(c.Starts, point(n))
		c.Class = append(c.Class, names[name])
	}
	return c
}

// chance picks rules and keys that are near one another, so that many pieces meet.
type chance struct{ *rand.Rand }

func pick[E any](r chance, list ...E) E {
	return list[r.Intn(len(list))]
}

func (r chance) address(fam int) api.Addr {
	if fam == 4 {
		return a4(pick(r, uint64(0), 10<<24, 10<<24+1<<16, most32-1) + uint64(r.Intn(2)))
	}
	return a6(pick(r, uint64(0), 1, 0xfe80<<48, most), pick(r, uint64(0), 1, 2, 1<<63, most))
}

func (r chance) net() api.Prefix {
	if r.Intn(4) == 0 {
		return api.Prefix{}
	}
	fam := pick(r, 4, 6)
	bits := pick(r, 0, 1, 8, 9, 15, 16, 31, 32, r.Intn(33))
	if fam == 6 {
		bits = pick(r, 0, 1, 10, 63, 64, 65, 127, 128, r.Intn(129))
	}
	m, _ := addr.Mask(r.address(fam), bits)
	return api.Prefix{Addr: m, Bits: bits}
}

func (r chance) ports() api.Ports {
	if r.Intn(4) == 0 {
		return all
	}
	p := []int{pick(r, 0, 1, 2, 3, 80, 81, 65534, 65535, r.Intn(65536)), pick(r, 0, 1, 2, 3, 80, 81, 65534, 65535, r.Intn(65536))}
	slices.Sort(p)
	return api.Ports{Lo: p[0], Hi: p[1]}
}

func (r chance) rule() api.Rule {
	return api.Rule{From: r.Intn(17) - 1, To: pick(r, -1, 0, 1, 14, 15), Src: r.net(), Dst: r.net(), Proto: pick(r, 0, 0, 1, 6, 17, 254, 255),
		Sport: r.ports(), Dport: r.ports(), Action: r.Intn(2), Help: r.Intn(4)}
}

func (r chance) rules() []api.Rule {
	rules := make([]api.Rule, pick(r, 0, 1, 2, 3, 5, 8, 20, 63, 64))
	for i := range rules {
		rules[i] = r.rule()
		if i > 0 && r.Intn(10) == 0 {
			rules[i] = rules[r.Intn(i)]
		}
	}
	return rules
}

func (r chance) key() api.Key {
	fam := pick(r, 4, 6)
	return api.Key{From: r.Intn(16), To: pick(r, 0, 1, 2, 14, 15), Src: r.address(fam), Dst: r.address(fam), Proto: pick(r, 0, 1, 2, 6, 17, 254, 255),
		Sport: pick(r, 0, 1, 2, 3, 4, 80, 81, 65535, r.Intn(65536)), Dport: pick(r, 0, 1, 2, 3, 4, 80, 81, 65535, r.Intn(65536))}
}

// eachCut hands out rule lists with one of their dimensions, and the cut.
func eachCut(t *testing.T, seed int64, times int, look func(rules []api.Rule, dim int, c api.Chunk)) {
	r := chance{rand.New(rand.NewSource(seed))}
	for range times {
		rules := r.rules()
		for dim := dimFrom; dim <= dimDport; dim++ {
			look(rules, dim, mustCut(t, rules, dim))
		}
	}
}

// P11.1, P11.2: cuts as the plain reading has them.
func TestPlainCut(t *testing.T) {
	eachCut(t, 1, 400, func(rules []api.Rule, dim int, c api.Chunk) {
		w := plainCut(rules, dim)
		if !alike(c, w) || !chunk.Same(c, w) || !chunk.Right(c) || !chunk.Right(w) {
			t.Fatalf("Cut(%+v, %d):\n%+v, want\n%+v", rules, dim, c, w)
		}
	})
}

// P11.3: at, ahead of and behind each start: a point's set are just the rules whose pieces hold it.
func TestSets(t *testing.T) {
	eachCut(t, 2, 60, func(rules []api.Rule, dim int, c api.Chunk) {
		for _, s := range c.Starts {
			for _, p := range near(s) {
				class, ok := chunk.Find(c, p)
				if !ok || !same(c.Sets[class], plainSet(rules, dim, great(p))) {
					t.Fatalf("%+v, %d, at %+v: %d %v", rules, dim, p, class, ok)
				}
			}
		}
	})
}

// P11.3: a rule takes a key, if it is in the sets of all of the key's points.
func TestKeys(t *testing.T) {
	r := chance{rand.New(rand.NewSource(3))}
	taken := 0
	for range 300 {
		rules := r.rules()
		if len(rules) > 0 {
			rules[0] = anything()
		}
		var cuts []api.Chunk
		for dim := dimFrom; dim <= dimDport; dim++ {
			cuts = append(cuts, mustCut(t, rules, dim))
		}
		for range 30 {
			k := r.key()
			if len(rules) > 1 && r.Intn(2) == 0 {
				rules[1] = exact(k)
				for dim := range cuts {
					cuts[dim] = mustCut(t, rules, dim)
				}
			}
			in := make([]int, len(rules))
			for dim, c := range cuts {
				p, ok := chunk.Spot(k, dim)
				class, there := chunk.Find(c, p)
				if !ok || !there {
					t.Fatalf("%+v, %d: %v %v", k, dim, ok, there)
				}
				for _, i := range c.Sets[class] {
					in[i]++
				}
			}
			for i, n := range in {
				if (n == 7) != first.Takes(rules[i], k) {
					t.Fatalf("%+v of %+v: in %d sets", k, rules[i], n)
				}
				taken += n / 7
			}
		}
	}
	if taken < 1000 {
		t.Error("too few were taken to tell:", taken)
	}
}

// P11.4: at most twice as many pieces as rules, and one; as many are there, if all begin and end apart.
func TestHowMany(t *testing.T) {
	eachCut(t, 4, 200, func(rules []api.Rule, dim int, c api.Chunk) {
		if n := len(c.Starts); n > 2*len(rules)+1 || n != len(c.Class) || len(c.Sets) > n {
			t.Fatalf("%+v, %d: %+v", rules, dim, c)
		}
	})
	for n := range 65 {
		var nets, ports []api.Rule
		for i := range n {
			nets = append(nets, netRule(dimDst, v4(uint64(i)<<16, 24)))
			ports = append(ports, portsRule(dimSport, 1+i, 60000-i))
		}
		for _, c := range []api.Chunk{mustCut(t, nets, dimDst), mustCut(t, ports, dimSport)} {
			if len(c.Starts) != 2*n+1 || len(c.Class) != 2*n+1 || len(c.Sets) != n+1 {
				t.Errorf("%d rules: %+v", n, c)
			}
		}
	}
}

// P11.5: a rule whose piece is all points, put behind all others, comes to each set and turns nothing else.
func TestBehindAll(t *testing.T) {
	eachCut(t, 5, 200, func(rules []api.Rule, dim int, c api.Chunk) {
		if len(rules) == api.MaxRules || dim == dimSport || dim == dimDport {
			return
		}
		r := exact(middle())
		switch dim {
		case dimFrom, dimTo:
			r.From, r.To = -1, -1
		case dimSrc, dimDst:
			r.Src, r.Dst = api.Prefix{}, api.Prefix{}
		case dimProto:
			r.Proto = 0
		}
		more := mustCut(t, append(slices.Clone(rules), r), dim)
		for i := range c.Sets {
			c.Sets[i] = append(c.Sets[i], len(rules))
		}
		if !alike(more, c) || !chunk.Same(more, c) {
			t.Fatalf("%+v, %d:\n%+v, want\n%+v", rules, dim, more, c)
		}
	})
}
