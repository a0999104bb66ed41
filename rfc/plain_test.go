package rfc_test

import (
	"fmt"
	"math"
	"math/rand"
	"slices"
	"testing"

	"stockade/addr"
	"stockade/api"
	"stockade/chunk"
	"stockade/first"
	"stockade/rfc"
)

// A plain reading of the chapter: sets are lists of places, told apart by their texts.

func both(a, b []int) []int {
	var out []int
	for _, n := range a {
		if slices.Contains(b, n) {
			out = append(out, n)
		}
	}
	return out
}

func plainCross(a, b [][]int) api.Cross {
	x := api.Cross{Width: len(b)}
	names := map[string]int{}
	for _, p := range a {
		for _, q := range b {
			set := both(p, q)
			name := fmt.Sprint(set)
			if _, there := names[name]; !there {
				names[name] = len(names)
				x.Sets = append(x.Sets, set)
			}
			x.Cells = append(x.Cells, names[name])
		}
	}
	return x
}

// plain are the tables, and their cost; it gives up (with that cost), where the cost is above stop.
func plain(rules []api.Rule, stop int) (api.Tables, int) {
	var t api.Tables
	cost := 0
	for dim := range dims {
		c, _ := chunk.Cut(rules, dim)
		t.Dims = append(t.Dims, c)
		cost += len(c.Starts)
	}
	d := func(i int) [][]int { return t.Dims[i].Sets }
	x := func(i int) [][]int { return t.Crosses[i].Sets }
	for _, side := range []func() ([][]int, [][]int){
		func() ([][]int, [][]int) { return d(0), d(1) },
		func() ([][]int, [][]int) { return d(2), d(3) },
		func() ([][]int, [][]int) { return d(5), d(6) },
		func() ([][]int, [][]int) { return x(1), x(2) },
		func() ([][]int, [][]int) { return x(3), d(4) },
		func() ([][]int, [][]int) { return x(4), x(0) },
	} {
		a, b := side()
		if cost += len(a) * len(b); cost > stop {
			return api.Tables{}, cost
		}
		t.Crosses = append(t.Crosses, plainCross(a, b))
	}
	for _, s := range x(5) {
		t.First = append(t.First, slices.Min(append([]int{math.MaxInt}, s...)))
		if len(s) == 0 {
			t.First[len(t.First)-1] = -1
		}
	}
	return t, cost
}

// come is the class of the last cross that a key comes to.
func come(t testing.TB, x api.Tables, k api.Key) int {
	t.Helper()
	var d [dims]int
	for dim := range dims {
		p, ok := chunk.Spot(k, dim)
		class, there := chunk.Find(x.Dims[dim], p)
		if !ok || !there {
			t.Fatalf("%+v, %d: %v %v", k, dim, ok, there)
		}
		d[dim] = class
	}
	cell := func(i, a, b int) int { return x.Crosses[i].Cells[a*x.Crosses[i].Width+b] }
	zones, nets, ports := cell(0, d[dimFrom], d[dimTo]), cell(1, d[dimSrc], d[dimDst]), cell(2, d[dimSport], d[dimDport])
	return cell(5, cell(4, cell(3, nets, ports), d[dimProto]), zones)
}

// chance picks rules and keys that are near one another, so that many rules take one key.
type chance struct{ *rand.Rand }

func pick[E any](r chance, list ...E) E {
	return list[r.Intn(len(list))]
}

func (r chance) address(fam int) api.Addr {
	if fam == 4 {
		return a4(pick(r, uint64(0), 10<<24, 10<<24+1<<16, 1<<32-2) + uint64(r.Intn(2)))
	}
	return a6(pick(r, uint64(0), 1, 0xfe80<<48, math.MaxUint64), pick(r, uint64(0), 1, 1<<63, math.MaxUint64))
}

func (r chance) net() api.Prefix {
	if r.Intn(2) == 0 {
		return api.Prefix{}
	}
	fam := pick(r, 4, 6)
	bits := pick(r, 0, 1, 8, 16, 32)
	if fam == 6 {
		bits = pick(r, 0, 1, 10, 64, 128)
	}
	m, _ := addr.Mask(r.address(fam), bits)
	return api.Prefix{Addr: m, Bits: bits}
}

func (r chance) ports() api.Ports {
	if r.Intn(2) == 0 {
		return all
	}
	p := []int{pick(r, 0, 1, 2, 80, 65535), pick(r, 0, 1, 2, 80, 65535)}
	slices.Sort(p)
	return api.Ports{Lo: p[0], Hi: p[1]}
}

func (r chance) rule() api.Rule {
	return api.Rule{From: pick(r, -1, -1, 0, 1, 15), To: pick(r, -1, -1, 0, 1, 15), Src: r.net(), Dst: r.net(), Proto: pick(r, 0, 0, 1, 6, 255),
		Sport: r.ports(), Dport: r.ports(), Action: r.Intn(2), Help: r.Intn(4)}
}

// rules are few that are unlike, or many that are of a few kinds.
func (r chance) rules() []api.Rule {
	rules := make([]api.Rule, pick(r, 0, 1, 2, 3, 4, 5, 6, 8, 10, 12, 20, 64))
	kinds := pick(r, 4, 8, 64)
	for i := range rules {
		rules[i] = r.rule()
		if i >= kinds {
			rules[i] = rules[r.Intn(kinds)]
		}
	}
	return rules
}

func (r chance) key() api.Key {
	fam := pick(r, 4, 6)
	return api.Key{From: pick(r, 0, 1, 2, 15), To: pick(r, 0, 1, 2, 15), Src: r.address(fam), Dst: r.address(fam), Proto: pick(r, 0, 1, 2, 6, 255),
		Sport: pick(r, 0, 1, 2, 3, 80, 65535), Dport: pick(r, 0, 1, 2, 3, 80, 65535)}
}

// keyOf is a key that a rule takes.
func (r chance) keyOf(rule api.Rule) api.Key {
	for {
		k := r.key()
		if rule.From >= 0 {
			k.From = rule.From
		}
		if rule.To >= 0 {
			k.To = rule.To
		}
		if rule.Proto > 0 {
			k.Proto = rule.Proto
		}
		k.Sport, k.Dport = rule.Sport.Lo, rule.Dport.Hi
		if rule.Src.Addr.Fam > 0 {
			k.Src = rule.Src.Addr
		}
		if rule.Dst.Addr.Fam > 0 {
			k.Dst = rule.Dst.Addr
		}
		if first.Takes(rule, k) || rule.Src.Addr.Fam+rule.Dst.Addr.Fam == 10 {
			return k // a rule of two families takes none
		}
	}
}

// P12.1, P12.2: any rules, as the plain reading has them.
func TestPlain(t *testing.T) {
	r := chance{rand.New(rand.NewSource(1))}
	made, dear := 0, 0
	for range 1500 {
		rules := r.rules()
		budget := pick(r, 4096, 1000, 200, r.Intn(4097))
		w, cost := plain(rules, 4096)
		if cost > budget {
			wantErr(t, rules, budget, api.ErrBudget)
			dear++
			continue
		}
		made++
		x := mustCompile(t, rules, budget)
		if !alike(x, w) || !rfc.Same(x, w) || rfc.Cost(x) != cost {
			t.Fatalf("Compile(%+v, %d):\n%+v, want\n%+v", rules, budget, x, w)
		}
	}
	if made < 500 || dear < 150 {
		t.Error("too few to tell:", made, dear)
	}
}

// eachTables hands out rule lists that are compiled, and their tables.
func eachTables(seed int64, times int, look func(r chance, rules []api.Rule, x api.Tables)) {
	r := chance{rand.New(rand.NewSource(seed))}
	for range times {
		rules := r.rules()
		x, e := rfc.Compile(rules, most)
		for e == api.ErrBudget {
			rules = rules[:len(rules)/2]
			x, e = rfc.Compile(rules, most)
		}
		look(r, rules, x)
	}
}

// P12.3: the class that a key comes to has just the rules that take it, and First the least of them.
func TestKeysCome(t *testing.T) {
	taken, none, several := 0, 0, 0
	eachTables(2, 500, func(r chance, rules []api.Rule, x api.Tables) {
		for range 20 {
			k := r.key()
			if len(rules) > 0 && r.Intn(3) > 0 {
				k = r.keyOf(rules[r.Intn(len(rules))])
			}
			if !first.RightKey(k) {
				continue
			}
			var want []int
			for i, rule := range rules {
				if first.Takes(rule, k) {
					want = append(want, i)
				}
			}
			class := come(t, x, k)
			if !equal(x.Crosses[5].Sets[class], want) {
				t.Fatalf("%+v of %+v: %v, want %v", k, rules, x.Crosses[5].Sets[class], want)
			}
			if n, _ := first.Find(rules, k); x.First[class] != n {
				t.Fatalf("%+v of %+v: %d, want %d", k, rules, x.First[class], n)
			}
			switch {
			case len(want) == 0:
				none++
			case len(want) == 1:
				taken++
			default:
				several++
			}
		}
	})
	if taken < 500 || none < 500 || several < 500 {
		t.Error("too few to tell:", taken, none, several)
	}
}

// P12.4: with a budget of the cost, and with no less, a list is compiled; more of it turns nothing.
func TestBudgetOfCost(t *testing.T) {
	eachTables(3, 300, func(r chance, rules []api.Rule, x api.Tables) {
		cost := rfc.Cost(x)
		for _, budget := range []int{0, 1, cost / 2, cost - 1} {
			wantErr(t, rules, budget, api.ErrBudget)
		}
		for _, budget := range []int{cost, min(cost+1, most), cost + r.Intn(most-cost+1), most} {
			if y := mustCompile(t, rules, budget); !alike(x, y) || !rfc.Same(x, y) {
				t.Fatalf("%+v: %+v, with %d: %+v", rules, x, budget, y)
			}
		}
	})
	rules := each(dimSrc, 7)
	x := mustCompile(t, rules, most)
	for budget := 0; budget <= most; budget++ {
		if budget < rfc.Cost(x) {
			wantErr(t, rules, budget, api.ErrBudget)
		} else if y := mustCompile(t, rules, budget); !alike(x, y) {
			t.Fatal(budget, y)
		}
	}
}

// P12.5: without the rules that are hidden each key comes to the same first rule, by its place.
func TestWithoutHidden(t *testing.T) {
	hidden, taken := 0, 0
	eachTables(4, 500, func(r chance, rules []api.Rule, x api.Tables) {
		places := first.Keep(rules)
		var kept []api.Rule
		for _, p := range places {
			kept = append(kept, rules[p])
		}
		hidden += len(rules) - len(kept)
		y, e := rfc.Compile(kept, most)
		if e != api.OK {
			t.Fatalf("%+v: %v", kept, e)
		}
		for range 20 {
			k := r.key()
			if len(rules) > 0 && r.Intn(2) == 0 {
				k = r.keyOf(rules[r.Intn(len(rules))])
			}
			if !first.RightKey(k) {
				continue
			}
			want := y.First[come(t, y, k)]
			if want >= 0 {
				want = places[want]
				taken++
			}
			if n := x.First[come(t, x, k)]; n != want {
				t.Fatalf("%+v of %+v: %d, of %v: %d", k, rules, n, places, want)
			}
		}
	})
	if hidden < 300 || taken < 500 {
		t.Error("too few to tell:", hidden, taken)
	}
}

// P12.5: a rule that is hidden is first in no class.
func TestHiddenNeverFirst(t *testing.T) {
	rules := []api.Rule{only(dimDport, 80), only(dimDport, 80), anything(), only(dimFrom, 3), anything()}
	x := mustCompile(t, rules, most)
	for _, n := range x.First {
		if n == 1 || n > 2 {
			t.Error(x.First)
		}
	}
	y := mustCompile(t, []api.Rule{only(dimDport, 80), anything()}, most)
	for _, port := range []int{0, 79, 80, 81, 65535} {
		k := middle()
		k.Dport = port
		n, m := x.First[come(t, x, k)], y.First[come(t, y, k)]
		if n != []int{0, 2}[m] || (port == 80) != (m == 0) {
			t.Error(port, n, m)
		}
	}
}
