package look_test

import (
	"math"
	"math/rand"
	"slices"
	"testing"

	"stockade/addr"
	"stockade/api"
	"stockade/chunk"
	"stockade/first"
	"stockade/look"
	"stockade/rfc"
)

// A plain reading of the chapter, with the crosses' sides written out.

func plainSets(sets [][]int) bool {
	for _, s := range sets {
		for i, n := range s {
			if n < 0 || i > 0 && s[i-1] >= n {
				return false
			}
		}
	}
	return true
}

func plainCheck(t api.Tables) bool {
	if len(t.Dims) != 7 || len(t.Crosses) != 6 {
		return false
	}
	for _, c := range t.Dims {
		if !chunk.Right(c) {
			return false
		}
	}
	d := func(i int) int { return len(t.Dims[i].Sets) }
	x := func(i int) int { return len(t.Crosses[i].Sets) }
	for i, side := range [][2]int{{d(0), d(1)}, {d(2), d(3)}, {d(5), d(6)}, {x(1), x(2)}, {x(3), d(4)}, {x(4), x(0)}} {
		c := t.Crosses[i]
		if c.Width < 1 || c.Width != side[1] || len(c.Cells) != side[0]*side[1] || !plainSets(c.Sets) {
			return false
		}
		if slices.ContainsFunc(c.Cells, func(n int) bool { return n < 0 || n >= len(c.Sets) }) {
			return false
		}
	}
	return len(t.First) == x(5) && !slices.ContainsFunc(t.First, func(n int) bool { return n < -1 })
}

// plainFind is the number of a key that may be, in tables that may be.
func plainFind(t api.Tables, k api.Key) int {
	number := func(n int) api.Point { return pt(0, 0, uint64(n)) }
	address := func(a api.Addr) api.Point { return pt(uint64(a.Fam), a.Hi, a.Lo) }
	d := func(i int, p api.Point) int {
		class := 0
		for j, s := range t.Dims[i].Starts {
			if s.A < p.A || s.A == p.A && (s.B < p.B || s.B == p.B && s.C <= p.C) {
				class = t.Dims[i].Class[j]
			}
		}
		return class
	}
	x := func(i, a, b int) int { return t.Crosses[i].Cells[a*t.Crosses[i].Width+b] }
	zones := x(0, d(0, number(k.From)), d(1, number(k.To)))
	nets := x(1, d(2, address(k.Src)), d(3, address(k.Dst)))
	ports := x(2, d(5, number(k.Sport)), d(6, number(k.Dport)))
	return t.First[x(5, x(4, x(3, nets, ports), d(4, number(k.Proto))), zones)]
}

// chance picks rules, keys and tables.
type chance struct{ *rand.Rand }

func pick[E any](r chance, list ...E) E {
	return list[r.Intn(len(list))]
}

func (r chance) address(fam int) api.Addr {
	if fam == 4 {
		return a4(pick(r, uint64(0), 10<<24, 10<<24+1<<16, 1<<32-2) + uint64(r.Intn(2)))
	}
	return a6(pick(r, uint64(0), 1, 0xfe80<<48, math.MaxUint64), pick(r, uint64(0), 1, 1<<63, math.MaxUint64))
}

func (r chance) net() api.Prefix {
	if r.Intn(2) == 0 {
		return api.Prefix{}
	}
	fam := pick(r, 4, 6)
	bits := pick(r, 0, 1, 8, 16, 32)
	if fam == 6 {
		bits = pick(r, 0, 1, 10, 64, 128)
	}
	m, _ := addr.Mask(r.address(fam), bits)
	return api.Prefix{Addr: m, Bits: bits}
}

func (r chance) ports() api.Ports {
	if r.Intn(2) == 0 {
		return all
	}
	p := []int{pick(r, 0, 1, 2, 80, 65535), pick(r, 0, 1, 2, 80, 65535)}
	slices.Sort(p)
	return api.Ports{Lo: p[0], Hi: p[1]}
}

func (r chance) rule() api.Rule {
	return api.Rule{From: pick(r, -1, -1, 0, 1, 15), To: pick(r, -1, -1, 0, 1, 15), Src: r.net(), Dst: r.net(), Proto: pick(r, 0, 0, 1, 6, 255),
		Sport: r.ports(), Dport: r.ports(), Action: r.Intn(2), Help: r.Intn(4)}
}

// compiled are rules, few that are unlike or many that are of a few kinds, and their tables.
func (r chance) compiled() ([]api.Rule, api.Tables) {
	rules := make([]api.Rule, pick(r, 0, 1, 2, 3, 4, 5, 6, 8, 10, 12, 20, 64))
	kinds := pick(r, 4, 8, 64)
	for i := range rules {
		rules[i] = r.rule()
		if i >= kinds {
			rules[i] = rules[r.Intn(kinds)]
		}
	}
	for {
		x, e := rfc.Compile(rules, api.MaxCells)
		if e == api.OK {
			return rules, x
		}
		rules = rules[:len(rules)/2]
	}
}

func (r chance) key() api.Key {
	fam := pick(r, 4, 6)
	return api.Key{From: pick(r, 0, 1, 2, 15), To: pick(r, 0, 1, 2, 15), Src: r.address(fam), Dst: r.address(fam), Proto: pick(r, 0, 1, 2, 6, 255),
		Sport: pick(r, 0, 1, 2, 3, 80, 65535), Dport: pick(r, 0, 1, 2, 3, 80, 65535)}
}

// toward turns a key so that a rule takes it, but for a rule of two families.
func (r chance) toward(k api.Key, rule api.Rule) api.Key {
	if fam := max(rule.Src.Addr.Fam, rule.Dst.Addr.Fam); fam > 0 {
		k.Src, k.Dst = r.address(fam), r.address(fam)
	}
	if rule.From >= 0 {
		k.From = rule.From
	}
	if rule.To >= 0 {
		k.To = rule.To
	}
	if rule.Proto > 0 {
		k.Proto = rule.Proto
	}
	if rule.Src.Addr.Fam > 0 {
		k.Src = rule.Src.Addr
	}
	if rule.Dst.Addr.Fam > 0 {
		k.Dst = rule.Dst.Addr
	}
	k.Sport, k.Dport = rule.Sport.Hi, rule.Dport.Lo
	return k
}

func (r chance) sets(many int) [][]int {
	sets := make([][]int, many)
	for i := range sets {
		n := pick(r, -1, 0, 3, 1<<40)
		for range r.Intn(4) {
			n += 1 + r.Intn(3)
			sets[i] = append(sets[i], n)
		}
	}
	return sets
}

func (r chance) numbers(many, below int) []int {
	list := make([]int, many)
	for i := range list {
		list[i] = r.Intn(below)
	}
	return list
}

// tables are some that may be, but that no rules have.
func (r chance) tables() api.Tables {
	var t api.Tables
	var sets []int
	for range dims {
		c := api.Chunk{Starts: []api.Point{{}}}
		for range r.Intn(5) {
			c.Starts = append(c.Starts, pick(r, pt(0, 0, uint64(1+r.Intn(16))), pt(0, 0, 80), pt(0, 1, 0), pt(4, 0, uint64(10<<24+r.Intn(3))), pt(6, uint64(r.Intn(3)), 1)))
		}
		slices.SortFunc(c.Starts, func(a, b api.Point) int {
			return slices.Compare([]uint64{a.A, a.B, a.C}, []uint64{b.A, b.B, b.C})
		})
		c.Starts = slices.Compact(c.Starts)
		c.Sets = r.sets(1 + r.Intn(4))
		c.Class = r.numbers(len(c.Starts), len(c.Sets))
		t.Dims, sets = append(t.Dims, c), append(sets, len(c.Sets))
	}
	for _, s := range [][2]int{{0, 1}, {2, 3}, {5, 6}, {8, 9}, {10, 4}, {11, 7}} {
		x := api.Cross{Width: sets[s[1]], Sets: r.sets(1 + r.Intn(5))}
		x.Cells = r.numbers(sets[s[0]]*sets[s[1]], len(x.Sets))
		t.Crosses, sets = append(t.Crosses, x), append(sets, len(x.Sets))
	}
	for range sets[len(sets)-1] {
		t.First = append(t.First, pick(r, -1, r.Intn(64), math.MaxInt-r.Intn(9)))
	}
	return t
}

// turn writes one thing in tables, anywhere.
func (r chance) turn(t *api.Tables) {
	lists := numberLists(t)
	list := lists[r.Intn(len(lists))]
	d, x := &t.Dims[r.Intn(dims)], &t.Crosses[r.Intn(crosses)]
	switch r.Intn(9) {
	case 0, 1:
		if len(*list) > 0 {
			(*list)[r.Intn(len(*list))] += pick(r, -2, -1, 1, 2)
		}
	case 2:
		*list = append(*list, r.Intn(9))
	case 3:
		*list = (*list)[:max(len(*list)-1, 0)]
	case 4:
		x.Width += pick(r, -1, 1, math.MaxInt)
	case 5:
		x.Sets = x.Sets[:len(x.Sets)-1]
	case 6:
		x.Sets = append(x.Sets, []int{r.Intn(3), r.Intn(3)})
	case 7:
		d.Sets = pick(r, append(d.Sets, nil), d.Sets[1:])
	default:
		d.Starts[r.Intn(len(d.Starts))].C += uint64(r.Intn(3))
	}
}

// P13.1: any tables, and any turned ones, as the plain reading has them.
func TestPlain(t *testing.T) {
	r := chance{rand.New(rand.NewSource(1))}
	right, wrong := 0, 0
	for range 6000 {
		x := r.tables()
		for range r.Intn(3) {
			r.turn(&x)
		}
		want := plainCheck(x)
		if got := look.Check(x); got != want {
			t.Fatalf("Check(%+v): %v", x, got)
		}
		for range 5 {
			k := r.key()
			n, e := look.Find(x, k)
			if !want {
				wrong++
				if n != 0 || e != api.ErrArg {
					t.Fatalf("Find(%+v, %+v): %d %v", x, k, n, e)
				}
				continue
			}
			right++
			if m := plainFind(x, k); n != m || e != api.OK {
				t.Fatalf("Find(%+v, %+v): %d %v, want %d", x, k, n, e, m)
			}
		}
	}
	if right < 9000 || wrong < 9000 {
		t.Error("too few to tell:", right, wrong)
	}
}

// P13.3, P13.4: what is compiled may be, and every key is found in it as the first rule that takes it.
func TestCompiled(t *testing.T) {
	r := chance{rand.New(rand.NewSource(2))}
	taken, none, later := 0, 0, 0
	for range 600 {
		rules, x := r.compiled()
		h := look.New()
		if !look.Check(x) || h.Swap(x) != api.OK {
			t.Fatalf("%+v may not be, of %+v", x, rules)
		}
		for range 20 {
			k := r.key()
			if len(rules) > 0 && r.Intn(3) > 0 {
				k = r.toward(k, rules[r.Intn(len(rules))])
			}
			if !first.RightKey(k) {
				continue
			}
			want, ok := first.Find(rules, k)
			n, e := look.Find(x, k)
			m, held := h.Find(k)
			if n != want || m != want || e != api.OK || held != api.OK {
				t.Fatalf("%+v of %+v: %d %v, held %d %v, want %d", k, rules, n, e, m, held, want)
			}
			switch {
			case !ok:
				none++
			case want > 0:
				later++
			default:
				taken++
			}
		}
	}
	if taken < 500 || none < 500 || later < 500 {
		t.Error("too few to tell:", taken, none, later)
	}
}

// P13.3, P13.4: the most rules, and tables of the greatest cost.
func TestCompiledGreat(t *testing.T) {
	for dim := range dims {
		many := api.MaxRules // zones are so few that rules come again, and are hidden
		if dim == dimFrom || dim == dimTo {
			many = api.MaxZones / 2
		}
		var rules []api.Rule
		for i := range api.MaxRules {
			rules = append(rules, only(dim, 2*(i%many)+1))
		}
		x := compile(t, rules...)
		wantCheck(t, "the most rules", x, true)
		for i := range many {
			wantFound(t, x, with(middle(), dim, 2*i+1, 1), i)
		}
	}
	x := compile(t, brim()...)
	if n := rfc.Cost(x); n != api.MaxCells {
		t.Error("not the greatest cost:", n)
	}
	wantCheck(t, "the greatest cost", x, true)
	wantFound(t, x, with(middle(), dimSport, 11, 0), 9)
	wantFound(t, x, with(middle(), dimDport, 93, 0), 23)
	wantFound(t, x, with(middle(), dimDport, 94, 0), -1)
}

// brim are rules whose tables have the greatest cost that may be.
func brim() []api.Rule {
	rules := []api.Rule{only(dimFrom, 0), only(dimFrom, 1), only(dimTo, 0), only(dimTo, 1)}
	for i := range 4 {
		rules = append(rules, only(dimProto, 1+i))
	}
	wide := func(i int) api.Ports { return api.Ports{Lo: 10 * i, Hi: 10*i + 3} }
	for i := range 6 {
		r := anything()
		r.Sport = wide(i)
		rules = append(rules, r)
	}
	for i := range 10 {
		r := anything()
		r.Dport = wide(i)
		rules = append(rules, r)
	}
	return rules
}

// P13.5, R4: between two Swaps that are taken a holder answers every key by the tables of the first one alone, whatever is asked, handed in or written over.
func TestBetweenSwaps(t *testing.T) {
	r := chance{rand.New(rand.NewSource(3))}
	h := look.New()
	has, turns, refused := compile(t), 0, 0
	for range 3000 {
		x := r.tables()
		if r.Intn(3) == 0 {
			_, x = r.compiled()
		}
		if r.Intn(2) == 0 {
			r.turn(&x)
		}
		switch e := h.Swap(x); {
		case e == api.OK && plainCheck(x):
			has, turns = copyOf(x), turns+1
		case e == api.ErrArg && !plainCheck(x):
			refused++
		default:
			t.Fatalf("Swap(%+v): %v", x, e)
		}
		for _, over := range overs() {
			over(x)
		}
		for range 4 {
			k := r.key()
			if r.Intn(4) == 0 {
				bad := pick(r, wrongKeys(k)...)
				if n, e := h.Find(bad); n != 0 || e != api.ErrArg {
					t.Fatalf("Find(%+v): %d %v", bad, n, e)
				}
			}
			if n, e := h.Find(k); n != plainFind(has, k) || e != api.OK {
				t.Fatalf("Find(%+v): %d %v, want %d", k, n, e, plainFind(has, k))
			}
		}
		wantTurns(t, h, turns)
	}
	if turns < 800 || refused < 800 {
		t.Error("too few to tell:", turns, refused)
	}
}

// copyOf are the same tables in memory of their own.
func copyOf(x api.Tables) api.Tables {
	y := x
	y.Dims, y.Crosses = slices.Clone(x.Dims), slices.Clone(x.Crosses)
	for i := range y.Dims {
		y.Dims[i].Starts, y.Dims[i].Sets = slices.Clone(x.Dims[i].Starts), slices.Clone(x.Dims[i].Sets)
	}
	for i := range y.Crosses {
		y.Crosses[i].Sets = slices.Clone(x.Crosses[i].Sets)
	}
	for _, list := range numberLists(&y) {
		*list = slices.Clone(*list)
	}
	return y
}
