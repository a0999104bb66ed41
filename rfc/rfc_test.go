package rfc_test

import (
	"math"
	"slices"
	"testing"

	"stockade/api"
	"stockade/rfc"
)

const (
	dimFrom  = 0
	dimTo    = 1
	dimSrc   = 2
	dimDst   = 3
	dimProto = 4
	dimSport = 5
	dimDport = 6
	dims     = 7

	most = api.MaxCells
)

var all = api.Ports{Lo: 0, Hi: 65535}

func a4(lo uint64) api.Addr { return api.Addr{Fam: 4, Lo: lo} }

func a6(hi, lo uint64) api.Addr { return api.Addr{Fam: 6, Hi: hi, Lo: lo} }

func v4(lo uint64, bits int) api.Prefix { return api.Prefix{Addr: a4(lo), Bits: bits} }

func v6(hi, lo uint64, bits int) api.Prefix { return api.Prefix{Addr: a6(hi, lo), Bits: bits} }

func pt(a, b, c uint64) api.Point { return api.Point{A: a, B: b, C: c} }

// points are those of numbers.
func points(list ...uint64) []api.Point {
	var out []api.Point
	for _, n := range list {
		out = append(out, pt(0, 0, n))
	}
	return out
}

// anything is a rule that takes every key.
func anything() api.Rule {
	return api.Rule{From: -1, To: -1, Sport: all, Dport: all}
}

// only is a rule that takes every key, but for one dimension: there the number n, the net 10.n.0.0/16, or the port n.
func only(dim, n int) api.Rule {
	r := anything()
	switch dim {
	case dimFrom:
		r.From = n
	case dimTo:
		r.To = n
	case dimSrc:
		r.Src = v4(10<<24+uint64(n)<<16, 16)
	case dimDst:
		r.Dst = v4(10<<24+uint64(n)<<16, 16)
	case dimProto:
		r.Proto = n
	case dimSport:
		r.Sport = api.Ports{Lo: n, Hi: n}
	default:
		r.Dport = api.Ports{Lo: n, Hi: n}
	}
	return r
}

// each are rules of one dimension, apart from one another and from 0.
func each(dim, many int) []api.Rule {
	var rules []api.Rule
	for i := range many {
		rules = append(rules, only(dim, 2*i+1))
	}
	return rules
}

func cut(starts []api.Point, class []int, sets ...[]int) api.Chunk {
	return api.Chunk{Starts: starts, Class: class, Sets: sets}
}

func cross(width int, cells []int, sets ...[]int) api.Cross {
	return api.Cross{Width: width, Cells: cells, Sets: sets}
}

func equal[E comparable](a, b []E) bool {
	if len(a) != len(b) {
		return false
	}
	for i := range a {
		if a[i] != b[i] {
			return false
		}
	}
	return true
}

func equalSets(a, b [][]int) bool {
	if len(a) != len(b) {
		return false
	}
	for i := range a {
		if !equal(a[i], b[i]) {
			return false
		}
	}
	return true
}

// alike holds tables against one another without the package's own Same.
func alike(a, b api.Tables) bool {
	if len(a.Dims) != len(b.Dims) || len(a.Crosses) != len(b.Crosses) || !equal(a.First, b.First) {
		return false
	}
	for i, x := range a.Dims {
		y := b.Dims[i]
		if !equal(x.Starts, y.Starts) || !equal(x.Class, y.Class) || !equalSets(x.Sets, y.Sets) {
			return false
		}
	}
	for i, x := range a.Crosses {
		y := b.Crosses[i]
		if x.Width != y.Width || !equal(x.Cells, y.Cells) || !equalSets(x.Sets, y.Sets) {
			return false
		}
	}
	return true
}

func mustCompile(t testing.TB, rules []api.Rule, budget int) api.Tables {
	t.Helper()
	x, e := rfc.Compile(rules, budget)
	if e != api.OK {
		t.Fatalf("Compile(%+v, %d): %v", rules, budget, e)
	}
	return x
}

// wantTables asks for tables of a cost: with that budget and with more, but not with less.
func wantTables(t testing.TB, rules []api.Rule, w api.Tables, cost int) {
	t.Helper()
	for _, budget := range []int{cost, cost + 1, most} {
		if budget > most {
			continue
		}
		x := mustCompile(t, rules, budget)
		if !alike(x, w) || !rfc.Same(x, w) || rfc.Cost(x) != cost {
			t.Errorf("Compile(%+v, %d):\n%+v, cost %d, want\n%+v, cost %d", rules, budget, x, rfc.Cost(x), w, cost)
		}
	}
	wantErr(t, rules, cost-1, api.ErrBudget)
	wantErr(t, rules, 0, api.ErrBudget)
}

// wantErr asks for an error, with no tables beside it.
func wantErr(t testing.TB, rules []api.Rule, budget int, want api.Errno) {
	t.Helper()
	x, e := rfc.Compile(rules, budget)
	if e != want || !alike(x, api.Tables{}) {
		t.Errorf("Compile(%d rules, %d): %+v %v, want %v", len(rules), budget, x, e, want)
	}
}

// The chapter's example: no rules.
func TestExample(t *testing.T) {
	var w api.Tables
	for range dims {
		w.Dims = append(w.Dims, cut(points(0), []int{0}, nil))
	}
	for range 6 {
		w.Crosses = append(w.Crosses, cross(1, []int{0}, nil))
	}
	w.First = []int{-1}
	wantTables(t, nil, w, 13)
	wantTables(t, []api.Rule{}, w, 13)
}

// P12.1: one rule: of zones, addresses and the protocol it has all points, but ports end.
func TestOneRule(t *testing.T) {
	w := api.Tables{Dims: plainDims(0), First: []int{0, -1}, Crosses: []api.Cross{
		cross(1, []int{0}, []int{0}),
		cross(1, []int{0}, []int{0}),
		cross(2, []int{0, 1, 1, 1}, []int{0}, nil),
		cross(2, []int{0, 1}, []int{0}, nil),
		cross(1, []int{0, 1}, []int{0}, nil),
		cross(1, []int{0, 1}, []int{0}, nil),
	}}
	wantTables(t, []api.Rule{anything()}, w, 21)
}

// plainDims are the cuts of rules that take every key.
func plainDims(set ...int) []api.Chunk {
	var list []api.Chunk
	for range dims - 2 {
		list = append(list, cut(points(0), []int{0}, set))
	}
	for range 2 {
		list = append(list, cut(points(0, 65536), []int{0, 1}, set, nil))
	}
	return list
}

// P12.1: a rule that takes a part of one dimension, and one behind it that takes every key.
func TestEachDimension(t *testing.T) {
	both, none, one, nought := []int{0, 1}, []int(nil), []int{1}, []int{0}
	ends := cross(2, []int{0, 1, 1, 1}, both, none)
	whole := cross(1, []int{0}, both)
	pair := cross(2, []int{0, 1}, both, none)
	net := []api.Point{{}, pt(4, 0, 10<<24+3<<16), pt(4, 0, 10<<24+4<<16)}
	number := cut(points(0, 3, 4), []int{0, 1, 0}, one, both)
	address := cut(net, []int{0, 1, 0}, one, both)
	port := cut(points(0, 3, 4, 65536), []int{0, 1, 0, 2}, one, both, none)
	split := cross(1, []int{0, 1}, one, both)
	for dim, c := range []struct {
		d       api.Chunk
		crosses []api.Cross
		first   []int
		cost    int
	}{
		{number, []api.Cross{split, whole, ends, pair, cross(1, []int{0, 1}, both, none), cross(2, []int{0, 1, 2, 2}, one, both, none)}, []int{1, 0, -1}, 26},
		{number, []api.Cross{cross(2, []int{0, 1}, one, both), whole, ends, pair, cross(1, []int{0, 1}, both, none), cross(2, []int{0, 1, 2, 2}, one, both, none)}, []int{1, 0, -1}, 26},
		{address, []api.Cross{whole, split, ends, cross(2, []int{0, 1, 2, 1}, one, none, both), cross(1, []int{0, 1, 2}, one, none, both), cross(1, []int{0, 1, 2}, one, none, both)}, []int{1, -1, 0}, 28},
		{address, []api.Cross{whole, cross(2, []int{0, 1}, one, both), ends, cross(2, []int{0, 1, 2, 1}, one, none, both), cross(1, []int{0, 1, 2}, one, none, both), cross(1, []int{0, 1, 2}, one, none, both)}, []int{1, -1, 0}, 28},
		{number, []api.Cross{whole, whole, ends, pair, cross(2, []int{0, 1, 2, 2}, one, both, none), cross(1, []int{0, 1, 2}, one, both, none)}, []int{1, 0, -1}, 26},
		{port, []api.Cross{whole, whole, cross(2, []int{0, 1, 2, 1, 1, 1}, one, none, both), cross(3, []int{0, 1, 2}, one, none, both), cross(1, []int{0, 1, 2}, one, none, both), cross(1, []int{0, 1, 2}, one, none, both)}, []int{1, -1, 0}, 28},
		{port, []api.Cross{whole, whole, cross(3, []int{0, 1, 2, 2, 2, 2}, one, both, none), cross(3, []int{0, 1, 2}, one, both, none), cross(1, []int{0, 1, 2}, one, both, none), cross(1, []int{0, 1, 2}, one, both, none)}, []int{1, 0, -1}, 28},
	} {
		w := api.Tables{Dims: plainDims(0, 1), Crosses: c.crosses, First: c.first}
		w.Dims[dim] = c.d
		wantTables(t, []api.Rule{only(dim, 3), anything()}, w, c.cost)
	}
	// The other way round no class is of the narrow rule first.
	w := api.Tables{Dims: plainDims(0, 1), First: []int{0, 0, -1}, Crosses: []api.Cross{
		cross(1, []int{0, 1}, nought, both), whole, ends, pair, cross(1, []int{0, 1}, both, none), cross(2, []int{0, 1, 2, 2}, nought, both, none)}}
	w.Dims[dimFrom] = cut(points(0, 3, 4), []int{0, 1, 0}, nought, both)
	wantTables(t, []api.Rule{anything(), only(dimFrom, 3)}, w, 26)
}

// P12.1: two classes on both sides of each cross, so that which side is the first one is told.
func TestSidesInOrder(t *testing.T) {
	r := only(dimFrom, 3)
	r.To, r.Proto, r.Src, r.Dst = 3, 3, only(dimSrc, 3).Src, v6(5, 0, 64)
	r.Sport, r.Dport = api.Ports{Lo: 3, Hi: 3}, api.Ports{Lo: 0, Hi: 3}
	w := api.Tables{First: []int{-1, 0}}
	for range 2 {
		w.Dims = append(w.Dims, cut(points(0, 3, 4), []int{0, 1, 0}, nil, []int{0}))
	}
	w.Dims = append(w.Dims,
		cut([]api.Point{{}, pt(4, 0, 10<<24+3<<16), pt(4, 0, 10<<24+4<<16)}, []int{0, 1, 0}, nil, []int{0}),
		cut([]api.Point{{}, pt(6, 5, 0), pt(6, 6, 0)}, []int{0, 1, 0}, nil, []int{0}),
		cut(points(0, 3, 4), []int{0, 1, 0}, nil, []int{0}),
		cut(points(0, 3, 4), []int{0, 1, 0}, nil, []int{0}),
		cut(points(0, 4), []int{0, 1}, []int{0}, nil))
	late, early := []int{0, 0, 0, 1}, []int{0, 0, 1, 0}
	for i := range 6 {
		cells := late
		if i == 2 {
			cells = early
		}
		w.Crosses = append(w.Crosses, cross(2, cells, nil, []int{0}))
	}
	wantTables(t, []api.Rule{r}, w, 44)
	// Sides with unlike numbers of classes: Width and cells are each cross's own.
	rules := append(append(each(dimFrom, 1), each(dimTo, 2)...), append(each(dimSrc, 3), each(dimDst, 4)...)...)
	rules = append(append(append(rules, each(dimProto, 1)...), each(dimSport, 2)...), each(dimDport, 1)...)
	x := mustCompile(t, rules, most)
	for i, s := range [][2]int{{2, 3}, {4, 5}, {4, 3}} {
		if c := x.Crosses[i]; c.Width != s[1] || len(c.Cells) != s[0]*s[1] || len(c.Sets) > len(c.Cells) {
			t.Errorf("cross %d: %+v", i, c)
		}
	}
	sets := func(i int) int { return len(x.Crosses[i].Sets) }
	for i, s := range [][2]int{{sets(1), sets(2)}, {sets(3), 2}, {sets(4), sets(0)}} {
		if c := x.Crosses[3+i]; c.Width != s[1] || len(c.Cells) != s[0]*s[1] {
			t.Errorf("cross %d: %+v", 3+i, c)
		}
	}
}

// P12.1: a budget is from 0 to 4096, which is asked first of all.
func TestBudgets(t *testing.T) {
	bad := api.Rule{From: -2}
	long := make([]api.Rule, 65)
	for _, budget := range []int{math.MinInt, math.MinInt + 1, -1 << 32, -4096, -13, -2, -1, 4097, 4098, 1 << 16, 1 << 32, 1<<32 + 13, math.MaxInt - 1, math.MaxInt} {
		for _, rules := range [][]api.Rule{nil, {}, {anything()}, {bad}, long, append([]api.Rule{bad}, long...), dear()} {
			wantErr(t, rules, budget, api.ErrArg)
		}
	}
	for budget := 0; budget <= most; budget++ {
		if budget < 13 {
			wantErr(t, nil, budget, api.ErrBudget)
		} else {
			mustCompile(t, nil, budget)
		}
	}
}

// dear are rules whose tables are far above every budget: unlike in each of four dimensions, and crossed there.
func dear() []api.Rule {
	rules := append(each(dimSrc, 16), each(dimDst, 16)...)
	return append(append(rules, each(dimSport, 16)...), each(dimDport, 16)...)
}

// P12.1: how many rules there are is asked behind the budget, each rule behind that, and the cost last.
func TestOrderOfErrors(t *testing.T) {
	bad := api.Rule{From: -2}
	wantErr(t, dear(), most, api.ErrBudget)
	wantErr(t, dear(), 0, api.ErrBudget)
	for _, budget := range []int{0, 12, 13, 4095, 4096} {
		wantErr(t, append(dear(), anything()), budget, api.ErrMany)
		wantErr(t, append(dear(), bad), budget, api.ErrMany)
		wantErr(t, append([]api.Rule{bad}, dear()...), budget, api.ErrMany)
		wantErr(t, make([]api.Rule, 100000), budget, api.ErrMany)
		wantErr(t, append(dear()[:63:63], bad), budget, api.ErrArg)
		wantErr(t, append([]api.Rule{bad}, dear()[:63]...), budget, api.ErrArg)
		wantErr(t, []api.Rule{bad}, budget, api.ErrArg)
	}
}

// P12.1: 64 rules, alike and unlike, are compiled; the last one stands in sets and in First like any other.
func TestManyRules(t *testing.T) {
	var same []api.Rule
	for range 64 {
		same = append(same, anything())
	}
	x := mustCompile(t, same, most)
	if rfc.Cost(x) != 21 || !equal(x.First, []int{0, -1}) || len(x.Crosses[5].Sets[0]) != 64 {
		t.Errorf("%+v", x)
	}
	wantErr(t, append(same, anything()), most, api.ErrMany)
	for dim := dimSrc; dim <= dimDport; dim++ {
		rules := each(dim, 64)
		x := mustCompile(t, rules, most)
		if !slices.Contains(x.First, 63) || slices.Max(x.First) != 63 {
			t.Errorf("%d: %v", dim, x.First)
		}
		wantErr(t, rules, rfc.Cost(x)-1, api.ErrBudget)
		wantErr(t, append(rules, anything()), most, api.ErrMany)
	}
	// 64 ports: 129 pieces, 65 classes; the other ports' two classes with them are 130 cells, and then 65 three times.
	if n := rfc.Cost(mustCompile(t, each(dimDport, 64), most)); n != 5+2+129+1+1+130+65+65+65 {
		t.Error(n)
	}
	if n := rfc.Cost(mustCompile(t, each(dimSport, 64), most)); n != 5+129+2+1+1+130+65+65+65 {
		t.Error(n)
	}
}

// brim are rules whose cost is 4096, or, with another zone, one more: zones apart have a piece between them, of no class of its own.
func brim(zone int) []api.Rule {
	rules := []api.Rule{only(dimFrom, 0), only(dimFrom, zone), only(dimTo, 0), only(dimTo, 1)}
	for i := range 4 {
		rules = append(rules, only(dimProto, 1+i))
	}
	wide := func(dim, i int) api.Rule {
		r, p := anything(), api.Ports{Lo: 10 * i, Hi: 10*i + 3}
		if dim == dimSport {
			r.Sport = p
		} else {
			r.Dport = p
		}
		return r
	}
	for i := range 6 {
		rules = append(rules, wide(dimSport, i))
	}
	for i := range 10 {
		rules = append(rules, wide(dimDport, i))
	}
	return rules
}

// P12.1: the greatest budget is enough for a cost of just that, and for none above it.
func TestBrim(t *testing.T) {
	x := mustCompile(t, brim(1), 4096)
	if rfc.Cost(x) != 4096 {
		t.Error(rfc.Cost(x))
	}
	w, cost := plain(brim(1), math.MaxInt)
	if !alike(x, w) || cost != 4096 {
		t.Error(cost)
	}
	wantErr(t, brim(1), 4095, api.ErrBudget)
	if _, cost := plain(brim(2), math.MaxInt); cost != 4097 {
		t.Error(cost)
	}
	wantErr(t, brim(2), 4096, api.ErrBudget)
}
