package rfc_test

import (
	"math"
	"slices"
	"testing"

	"stockade/api"
	"stockade/chunk"
	"stockade/rfc"
)

func middle() api.Key {
	return api.Key{From: 3, To: 4, Src: a4(10<<24 + 1), Dst: a4(11 << 24), Proto: api.TCP, Sport: 1000, Dport: 80}
}

func middle6() api.Key {
	k := middle()
	k.Src, k.Dst = a6(0xfe80<<48, 1), a6(5, 7)
	return k
}

// odd are numbers that may stand in no field of a key or a rule.
var odd = []int{math.MinInt, math.MinInt + 1, math.MinInt32, -65536, -256, -16, -2, 65536, 1 << 17, math.MaxInt32, 1 << 32, 1<<32 + 1, math.MaxInt - 1, math.MaxInt}

// exact is a rule that takes the key alone.
func exact(k api.Key) api.Rule {
	bits := 32
	if k.Src.Fam == 6 {
		bits = 128
	}
	return api.Rule{From: k.From, To: k.To, Src: api.Prefix{Addr: k.Src, Bits: bits}, Dst: api.Prefix{Addr: k.Dst, Bits: bits}, Proto: k.Proto,
		Sport: api.Ports{Lo: k.Sport, Hi: k.Sport}, Dport: api.Ports{Lo: k.Dport, Hi: k.Dport}, Action: api.Allow, Help: api.FTP}
}

// wrongRules are rules that differ from the one handed in in one field, and may not be.
func wrongRules(r api.Rule) []api.Rule {
	var list []api.Rule
	add := func(write func(r *api.Rule)) {
		bad := r
		write(&bad)
		list = append(list, bad)
	}
	for _, n := range odd {
		add(func(r *api.Rule) { r.From = n })
		add(func(r *api.Rule) { r.To = n })
		add(func(r *api.Rule) { r.Proto = n })
		add(func(r *api.Rule) { r.Action = n })
		add(func(r *api.Rule) { r.Help = n })
		add(func(r *api.Rule) { r.Sport.Lo = n })
		add(func(r *api.Rule) { r.Sport.Hi = n })
		add(func(r *api.Rule) { r.Dport.Lo = n })
		add(func(r *api.Rule) { r.Dport.Hi = n })
		add(func(r *api.Rule) { r.Src.Bits = n })
		add(func(r *api.Rule) { r.Dst.Bits = n })
		add(func(r *api.Rule) { r.Src.Addr.Fam = n })
		add(func(r *api.Rule) { r.Dst.Addr.Fam = n })
	}
	add(func(r *api.Rule) { r.From = 16 })
	add(func(r *api.Rule) { r.To = 16 })
	add(func(r *api.Rule) { r.Proto = 256 })
	add(func(r *api.Rule) { r.Proto = -1 })
	add(func(r *api.Rule) { r.Action = 2 })
	add(func(r *api.Rule) { r.Action = -1 })
	add(func(r *api.Rule) { r.Help = 4 })
	add(func(r *api.Rule) { r.Help = -1 })
	add(func(r *api.Rule) { r.Sport = api.Ports{Lo: 2, Hi: 1} })
	add(func(r *api.Rule) { r.Dport = api.Ports{Lo: 2, Hi: 1} })
	add(func(r *api.Rule) { r.Src = api.Prefix{Addr: a4(1), Bits: 31} })
	add(func(r *api.Rule) { r.Dst = api.Prefix{Addr: a6(1, 0), Bits: 63} })
	add(func(r *api.Rule) { r.Src = api.Prefix{Addr: a4(0), Bits: 33} })
	add(func(r *api.Rule) { r.Dst = api.Prefix{Addr: a6(0, 0), Bits: 129} })
	add(func(r *api.Rule) { r.Src = api.Prefix{Addr: api.Addr{Fam: 4, Hi: 1}, Bits: 32} })
	add(func(r *api.Rule) { r.Dst = api.Prefix{Addr: api.Addr{Lo: 1}} })
	return list
}

// P12.1: a rule that may not be, at whatever place and for whatever field, refuses the list with every budget that may be.
func TestWrongRules(t *testing.T) {
	for _, good := range []api.Rule{anything(), exact(middle()), exact(middle6())} {
		for _, bad := range wrongRules(good) {
			for _, budget := range []int{0, 12, 13, most} {
				wantErr(t, []api.Rule{bad}, budget, api.ErrArg)
				wantErr(t, []api.Rule{bad, good, good}, budget, api.ErrArg)
				wantErr(t, []api.Rule{good, good, bad}, budget, api.ErrArg)
			}
			wantErr(t, append(dear()[:63:63], bad), most, api.ErrArg)
			wantErr(t, append(dear(), bad), most, api.ErrMany)
			wantErr(t, []api.Rule{bad}, -1, api.ErrArg)
			wantErr(t, []api.Rule{bad}, most+1, api.ErrArg)
		}
		mustCompile(t, []api.Rule{good, good, good}, most)
	}
	mustCompile(t, []api.Rule{{}}, most)
}

// P12.1: layer 11's errors are just those of its cuts.
func TestErrorsOfCuts(t *testing.T) {
	for _, rules := range [][]api.Rule{nil, {{}}, {{From: 16}}, make([]api.Rule, 64), make([]api.Rule, 65), append(make([]api.Rule, 63), api.Rule{Help: -1})} {
		_, want := chunk.Cut(rules, dimFrom)
		if _, e := rfc.Compile(rules, most); e != want {
			t.Errorf("%d rules: %v, want %v", len(rules), e, want)
		}
	}
}

// numberLists are all of the lists of numbers in tables.
func numberLists(x *api.Tables) []*[]int {
	list := []*[]int{&x.First}
	for i := range x.Dims {
		list = append(list, &x.Dims[i].Class)
		for j := range x.Dims[i].Sets {
			list = append(list, &x.Dims[i].Sets[j])
		}
	}
	for i := range x.Crosses {
		list = append(list, &x.Crosses[i].Cells)
		for j := range x.Crosses[i].Sets {
			list = append(list, &x.Crosses[i].Sets[j])
		}
	}
	return list
}

// fill writes over a list, also behind its end.
func fill[E any](list []E, x E) {
	list = list[:cap(list)]
	for i := range list {
		list[i] = x
	}
}

// writeOver writes over all of the tables.
func writeOver(x api.Tables) {
	for _, list := range numberLists(&x) {
		fill(*list, -9)
	}
	for _, c := range x.Dims {
		fill(c.Starts, pt(9, 9, 9))
		fill(c.Sets, []int{-9})
	}
	for _, c := range x.Crosses {
		fill(c.Sets, []int{-9})
	}
	fill(x.Dims, api.Chunk{})
	fill(x.Crosses, api.Cross{Width: -9})
}

// mixed are rules with some classes along each dimension.
func mixed() []api.Rule {
	rules := []api.Rule{exact(middle()), only(dimFrom, 3), exact(middle6()), only(dimDport, 80), anything(), exact(middle())}
	return append(rules, only(dimSrc, 1), only(dimProto, 6))
}

// R4: the rules that are handed in are not turned, nor what lies behind their end; tables that were answered may be written over.
func TestHandedIn(t *testing.T) {
	room := append(mixed(), api.Rule{From: 77}, api.Rule{To: 78})
	before := slices.Clone(room)
	n := len(room) - 2
	for _, budget := range []int{-1, 0, 100, most, most + 1} {
		rfc.Compile(room[:n], budget)
		rfc.Compile(room, budget)
		if !slices.Equal(room, before) {
			t.Fatal(room)
		}
	}
	a, b := mustCompile(t, room[:n], most), mustCompile(t, room[:n], most)
	writeOver(a)
	if c := mustCompile(t, room[:n], most); !alike(b, c) || !slices.Equal(room, before) {
		t.Errorf("%+v, was %+v", c, b)
	}
	// The rules may be written over, too: nothing of them is kept.
	for i := range room {
		room[i] = api.Rule{From: 99}
	}
	if c := mustCompile(t, before[:n], most); !alike(b, c) {
		t.Errorf("%+v, was %+v", c, b)
	}
}

// R4: no two lists of tables share memory: what is written into one turns no other one.
func TestListsApart(t *testing.T) {
	old := mustCompile(t, mixed(), most)
	for i := range numberLists(&old) {
		x := mustCompile(t, mixed(), most)
		fill(*numberLists(&x)[i], -9)
		*numberLists(&x)[i] = *numberLists(&old)[i]
		if !alike(x, old) {
			t.Fatalf("list %d: %+v, was %+v", i, x, old)
		}
	}
	for i := range old.Dims {
		x := mustCompile(t, mixed(), most)
		fill(x.Dims[i].Starts, pt(9, 9, 9))
		fill(x.Dims[i].Sets, []int{-9})
		x.Dims[i] = old.Dims[i]
		if !alike(x, old) {
			t.Fatalf("dim %d: %+v, was %+v", i, x, old)
		}
	}
	for i := range old.Crosses {
		x := mustCompile(t, mixed(), most)
		fill(x.Crosses[i].Sets, []int{-9})
		x.Crosses[i] = old.Crosses[i]
		if !alike(x, old) {
			t.Fatalf("cross %d: %+v, was %+v", i, x, old)
		}
	}
}

// R4: tables that are handed in are not turned, nor what lies behind the ends of their lists.
func TestTablesHandedIn(t *testing.T) {
	roomy := func() api.Tables {
		x := odds()
		for _, list := range numberLists(&x) {
			*list = append(slices.Clone(*list), 77)[:len(*list)]
		}
		x.Dims = append(x.Dims, api.Chunk{Class: []int{78}})[:len(x.Dims)]
		x.Crosses = append(x.Crosses, api.Cross{Width: 79})[:len(x.Crosses)]
		return x
	}
	whole := func(x api.Tables) api.Tables {
		for _, list := range numberLists(&x) {
			*list = (*list)[:len(*list)+1]
		}
		x.Dims, x.Crosses = x.Dims[:len(x.Dims)+1], x.Crosses[:len(x.Crosses)+1]
		return x
	}
	x, old := roomy(), roomy()
	rfc.Cost(x)
	rfc.Same(x, x)
	rfc.Same(x, old)
	rfc.Same(old, mustCompile(t, nil, 13))
	if !alike(whole(x), whole(old)) {
		t.Errorf("%+v, was %+v", x, old)
	}
}
