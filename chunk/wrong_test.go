package chunk_test

import (
	"math"
	"slices"
	"testing"

	"stockade/api"
	"stockade/chunk"
)

// odd are numbers that may stand in no field of a key or a rule.
var odd = []int{math.MinInt, math.MinInt + 1, math.MinInt32, -65536, -256, -16, -2, 65536, 1 << 17, math.MaxInt32, 1 << 32, 1<<32 + 1, math.MaxInt - 1, math.MaxInt}

// exact is a rule that takes the key alone.
func exact(k api.Key) api.Rule {
	bits := 32
	if k.Src.Fam == 6 {
		bits = 128
	}
	return api.Rule{From: k.From, To: k.To, Src: api.Prefix{Addr: k.Src, Bits: bits}, Dst: api.Prefix{Addr: k.Dst, Bits: bits}, Proto: k.Proto,
		Sport: api.Ports{Lo: k.Sport, Hi: k.Sport}, Dport: api.Ports{Lo: k.Dport, Hi: k.Dport}, Action: api.Allow, Help: api.FTP}
}

// wrongRules are rules that differ from the one handed in in one field, and may not be.
func wrongRules(r api.Rule) []api.Rule {
	var list []api.Rule
	add := func(write func(r *api.Rule)) {
		bad := r
		write(&bad)
		list = append(list, bad)
	}
	for _, n := range odd {
		add(func(r *api.Rule) { r.From = n })
		add(func(r *api.Rule) { r.To = n })
		add(func(r *api.Rule) { r.Proto = n })
		add(func(r *api.Rule) { r.Action = n })
		add(func(r *api.Rule) { r.Help = n })
		add(func(r *api.Rule) { r.Sport.Lo = n })
		add(func(r *api.Rule) { r.Sport.Hi = n })
		add(func(r *api.Rule) { r.Dport.Lo = n })
		add(func(r *api.Rule) { r.Dport.Hi = n })
		add(func(r *api.Rule) { r.Src.Bits = n })
		add(func(r *api.Rule) { r.Dst.Bits = n })
		add(func(r *api.Rule) { r.Src.Addr.Fam = n })
		add(func(r *api.Rule) { r.Dst.Addr.Fam = n })
	}
	add(func(r *api.Rule) { r.From = 16 })
	add(func(r *api.Rule) { r.To = 16 })
	add(func(r *api.Rule) { r.Proto = 256 })
	add(func(r *api.Rule) { r.Proto = -1 })
	add(func(r *api.Rule) { r.Action = 2 })
	add(func(r *api.Rule) { r.Action = -1 })
	add(func(r *api.Rule) { r.Help = 4 })
	add(func(r *api.Rule) { r.Help = -1 })
	add(func(r *api.Rule) { r.Sport = api.Ports{Lo: 2, Hi: 1} })
	add(func(r *api.Rule) { r.Dport = api.Ports{Lo: 2, Hi: 1} })
	add(func(r *api.Rule) { r.Src = api.Prefix{Addr: a4(1), Bits: 31} })
	add(func(r *api.Rule) { r.Dst = api.Prefix{Addr: a6(1, 0), Bits: 63} })
	add(func(r *api.Rule) { r.Src = api.Prefix{Addr: a4(0), Bits: 33} })
	add(func(r *api.Rule) { r.Dst = api.Prefix{Addr: a6(0, 0), Bits: 129} })
	add(func(r *api.Rule) { r.Src = api.Prefix{Addr: api.Addr{Fam: 4, Hi: 1}, Bits: 32} })
	add(func(r *api.Rule) { r.Dst = api.Prefix{Addr: api.Addr{Lo: 1}} })
	return list
}

// wrongKeys are keys that differ from the one handed in in one field, and may not be.
func wrongKeys(k api.Key) []api.Key {
	var list []api.Key
	add := func(write func(k *api.Key)) {
		bad := k
		write(&bad)
		list = append(list, bad)
	}
	for _, n := range append([]int{-1}, odd...) {
		add(func(k *api.Key) { k.From = n })
		add(func(k *api.Key) { k.To = n })
		add(func(k *api.Key) { k.Proto = n })
		add(func(k *api.Key) { k.Sport = n })
		add(func(k *api.Key) { k.Dport = n })
		add(func(k *api.Key) { k.Src.Fam = n })
		add(func(k *api.Key) { k.Dst.Fam = n })
	}
	add(func(k *api.Key) { k.From = 16 })
	add(func(k *api.Key) { k.To = 16 })
	add(func(k *api.Key) { k.Proto = 256 })
	add(func(k *api.Key) { k.Src.Fam = 0 })
	add(func(k *api.Key) { k.Dst.Fam = 10 - k.Src.Fam })
	add(func(k *api.Key) { k.Src = api.Addr{} })
	add(func(k *api.Key) { k.Dst = api.Addr{} })
	add(func(k *api.Key) { k.Src = api.Addr{Fam: 4, Hi: 1} })
	add(func(k *api.Key) { k.Dst = api.Addr{Fam: 4, Lo: 1 << 32} })
	return list
}

// P11.1: a rule that may not be, at whatever place and for whatever field, refuses the list along every dimension.
func TestWrongRules(t *testing.T) {
	for _, good := range []api.Rule{anything(), exact(middle()), exact(middle6())} {
		for _, bad := range wrongRules(good) {
			for dim := dimFrom; dim <= dimDport; dim++ {
				wantErr(t, []api.Rule{bad}, dim, api.ErrArg)
				wantErr(t, []api.Rule{bad, good, good}, dim, api.ErrArg)
				wantErr(t, []api.Rule{good, good, bad}, dim, api.ErrArg)
			}
			wantErr(t, []api.Rule{bad}, -1, api.ErrArg)
			wantErr(t, []api.Rule{bad}, 7, api.ErrArg)
		}
	}
	for dim := dimFrom; dim <= dimDport; dim++ {
		wantErr(t, []api.Rule{{Src: api.Prefix{Bits: 1}}}, dim, api.ErrArg)
		mustCut(t, []api.Rule{{}}, dim)
	}
}

// R4: the rules that are handed in are not turned, nor what lies behind their end; a cut that was answered may be written over.
func TestHandedIn(t *testing.T) {
	room := []api.Rule{exact(middle()), anything(), exact(middle6()), exact(middle()), {From: 77}, {To: 78}}
	before := slices.Clone(room)
	for dim := dimFrom; dim <= dimDport; dim++ {
		a, b := mustCut(t, room[:4], dim), mustCut(t, room[:4], dim)
		if !slices.Equal(room, before) {
			t.Fatal(room)
		}
		writeOver(a)
		if c := mustCut(t, room[:4], dim); !alike(b, c) || !slices.Equal(room, before) {
			t.Errorf("%d: %+v, was %+v", dim, c, b)
		}
	}
}

// writeOver writes over all of a cut, also behind the ends of its lists.
func writeOver(c api.Chunk) {
	for i := range c.Starts[:cap(c.Starts)] {
		c.Starts[:cap(c.Starts)][i] = pt(9, 9, 9)
	}
	for i := range c.Class[:cap(c.Class)] {
		c.Class[:cap(c.Class)][i] = -9
	}
	for _, s := range c.Sets {
		for i := range s[:cap(s)] {
			s[:cap(s)][i] = -9
		}
	}
	for i := range c.Sets[:cap(c.Sets)] {
		c.Sets[:cap(c.Sets)][i] = []int{-9}
	}
}

// R4: no two lists of a cut share memory: what is written or put behind one turns no other one.
func TestListsApart(t *testing.T) {
	rules := append(numberRules(dimDport, 1, 2, 3, 4, 5, 6, 7, 8), portsRules(dimDport, api.Ports{Lo: 2, Hi: 6}, api.Ports{Lo: 3, Hi: 9}, all, all)...)
	n := len(mustCut(t, rules, dimDport).Sets)
	for i := range n {
		c, old := mustCut(t, rules, dimDport), mustCut(t, rules, dimDport)
		full := c.Sets[i][:cap(c.Sets[i])]
		for j := range full {
			full[j] = -9
		}
		c.Sets[i] = old.Sets[i]
		if !alike(c, old) {
			t.Errorf("set %d: %+v, was %+v", i, c, old)
		}
	}
}

// R4: cuts that are handed in are not turned, right or not, nor what lies behind the ends of their lists.
func TestCutHandedIn(t *testing.T) {
	make2 := func(right bool) api.Chunk {
		c := pieces()
		if !right {
			c.Starts[1], c.Starts[2] = c.Starts[2], c.Starts[1]
			c.Sets[0] = []int{3, 0}
		}
		c.Starts = append(c.Starts, pt(1, 1, 1))[:5]
		c.Class = append(c.Class, 77)[:5]
		c.Sets = append(c.Sets, []int{78})[:3]
		c.Sets[2] = append(c.Sets[2], 79)[:1]
		return c
	}
	for _, right := range []bool{true, false} {
		c, old := make2(right), make2(right)
		chunk.Right(c)
		chunk.Same(c, c)
		chunk.Same(c, old)
		for _, p := range append(slices.Clone(old.Starts), pt(most, 0, 0)) {
			chunk.Find(c, p)
		}
		c.Starts, old.Starts = c.Starts[:6], old.Starts[:6]
		c.Class, old.Class = c.Class[:6], old.Class[:6]
		c.Sets, old.Sets = c.Sets[:4], old.Sets[:4]
		c.Sets[2], old.Sets[2] = c.Sets[2][:2], old.Sets[2][:2]
		if !alike(c, old) {
			t.Errorf("%+v, was %+v", c, old)
		}
	}
}
