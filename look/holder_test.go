package look_test

import (
	"math"
	"slices"
	"testing"

	"stockade/api"
	"stockade/look"
)

func wantTurns(t testing.TB, h *look.Holder, want int) {
	t.Helper()
	if got := h.Turns(); got != want {
		t.Errorf("Turns: %d, want %d", got, want)
	}
}

func swap(t testing.TB, h *look.Holder, x api.Tables) {
	t.Helper()
	if e := h.Swap(x); e != api.OK {
		t.Fatalf("Swap(%+v): %v", x, e)
	}
}

// constant are tables that answer one number to every key.
func constant(t testing.TB, n int) api.Tables {
	x := compile(t)
	x.First[0] = n
	return x
}

// P13.2: a new holder has the tables of no rules, and was never turned.
func TestNew(t *testing.T) {
	h := look.New()
	wantTurns(t, h, 0)
	for _, k := range []api.Key{middle(), middle6(), {Src: a4(0), Dst: a4(0)}, {Src: a6(0, 0), Dst: a6(0, 0)}} {
		wantHeld(t, h, k, -1)
	}
	wantTurns(t, h, 0)
}

// P13.2: a Swap that is taken counts, also of the same tables; then the holder has those.
func TestSwap(t *testing.T) {
	h := look.New()
	k := with(middle(), dimDport, 3, 0)
	for i, c := range []struct {
		x            api.Tables
		there, other int
	}{
		{compile(t, only(dimDport, 3)), 0, -1},
		{compile(t, only(dimDport, 3), anything()), 0, 1},
		{compile(t, only(dimDport, 3), anything()), 0, 1},
		{compile(t, only(dimFrom, 3), only(dimTo, 3), only(dimDport, 3), only(dimSrc, 3), anything()), 2, 4},
		{compile(t), -1, -1},
		{compile(t), -1, -1},
		{constant(t, math.MaxInt), math.MaxInt, math.MaxInt},
	} {
		swap(t, h, c.x)
		wantTurns(t, h, i+1)
		wantHeld(t, h, k, c.there)
		wantHeld(t, h, middle(), c.other)
		wantHeld(t, h, middle6(), c.other)
		wantTurns(t, h, i+1)
	}
}

// P13.2, R5: holders have nothing in common.
func TestHoldersApart(t *testing.T) {
	a, b, c := look.New(), look.New(), look.New()
	x := constant(t, 5)
	swap(t, a, x)
	swap(t, b, x)
	swap(t, b, constant(t, 6))
	wantHeld(t, a, middle(), 5)
	wantHeld(t, b, middle(), 6)
	wantHeld(t, c, middle(), -1)
	wantTurns(t, a, 1)
	wantTurns(t, b, 2)
	wantTurns(t, c, 0)
	wantHeld(t, look.New(), middle(), -1)
}

// wrongTables are some that may not be, of which most would answer a key.
func wrongTables(t testing.TB) []api.Tables {
	list := []api.Tables{{}}
	for _, write := range []func(x *api.Tables){
		func(x *api.Tables) { x.Dims = x.Dims[:6] },
		func(x *api.Tables) { x.Dims = append(x.Dims, x.Dims[0]) },
		func(x *api.Tables) { x.Crosses = x.Crosses[:5] },
		func(x *api.Tables) { x.Crosses = append(x.Crosses, x.Crosses[0]) },
		func(x *api.Tables) { x.Dims[0].Sets[0] = []int{-1} },
		func(x *api.Tables) { x.Crosses[0].Width = 0 },
		func(x *api.Tables) { x.Crosses[1].Width = 2 },
		func(x *api.Tables) { x.Crosses[2].Cells = append(x.Crosses[2].Cells, 0) },
		func(x *api.Tables) { x.Crosses[3].Cells[0] = -1 },
		func(x *api.Tables) { x.Crosses[4].Cells[0] = 1 },
		func(x *api.Tables) { x.Crosses[5].Sets[0] = []int{3, 3} },
		func(x *api.Tables) { x.First = append(x.First, 0) },
		func(x *api.Tables) { x.First = nil },
		func(x *api.Tables) { x.First[0] = -2 },
	} {
		x := constant(t, 9)
		write(&x)
		list = append(list, x)
	}
	return list
}

// P13.2, R7: tables that may not be turn nothing: the old ones stay, and the count.
func TestSwapRefused(t *testing.T) {
	h := look.New()
	for turns := range 3 {
		want := turns + 40
		if turns == 0 {
			want = -1
		}
		for i, x := range wrongTables(t) {
			if e := h.Swap(x); e != api.ErrArg {
				t.Errorf("%d: Swap(%+v): %v", i, x, e)
			}
			wantHeld(t, h, middle(), want)
			wantHeld(t, h, middle6(), want)
			wantTurns(t, h, turns)
		}
		swap(t, h, constant(t, turns+41))
	}
}

// P13.2: a nil holder, and one that New did not give, have nothing, whatever they are handed.
func TestNotMade(t *testing.T) {
	for name, h := range map[string]*look.Holder{"nil": nil, "zero": {}, "new": new(look.Holder)} {
		for _, x := range append(wrongTables(t), compile(t), constant(t, 3), own()) {
			if e := h.Swap(x); e != api.ErrNil {
				t.Errorf("%s: Swap: %v", name, e)
			}
			for _, k := range append(wrongKeys(middle()), middle(), middle6()) {
				if n, e := h.Find(k); n != 0 || e != api.ErrNil {
					t.Errorf("%s: Find(%+v): %d %v", name, k, n, e)
				}
			}
			wantTurns(t, h, 0)
		}
	}
}

// wrongKeys are keys that differ from the one handed in in one field, and may not be.
func wrongKeys(k api.Key) []api.Key {
	var list []api.Key
	add := func(write func(k *api.Key)) {
		bad := k
		write(&bad)
		list = append(list, bad)
	}
	for _, n := range []int{math.MinInt, math.MinInt32, -65536, -256, -2, -1, 65536, 1 << 32, math.MaxInt} {
		add(func(k *api.Key) { k.From = n })
		add(func(k *api.Key) { k.To = n })
		add(func(k *api.Key) { k.Proto = n })
		add(func(k *api.Key) { k.Sport = n })
		add(func(k *api.Key) { k.Dport = n })
		add(func(k *api.Key) { k.Src.Fam = n })
		add(func(k *api.Key) { k.Dst.Fam = n })
	}
	add(func(k *api.Key) { k.From = 16 })
	add(func(k *api.Key) { k.To = 16 })
	add(func(k *api.Key) { k.Proto = 256 })
	add(func(k *api.Key) { k.Src = api.Addr{} })
	add(func(k *api.Key) { k.Dst = api.Addr{} })
	add(func(k *api.Key) { k.Src.Fam = 10 - k.Src.Fam })
	add(func(k *api.Key) { k.Dst.Fam = 10 - k.Dst.Fam })
	add(func(k *api.Key) { k.Src = api.Addr{Fam: 4, Hi: 1} })
	add(func(k *api.Key) { k.Dst = api.Addr{Fam: 4, Lo: 1 << 32} })
	add(func(k *api.Key) { *k = api.Key{} })
	return list
}

// P13.1, P13.2: keys that may not be are found nowhere, not even in tables that answer every key.
func TestWrongKeys(t *testing.T) {
	for _, good := range []api.Key{middle(), middle6()} {
		for _, x := range []api.Tables{compile(t), compile(t, anything()), compile(t, only(dimProto, 3), anything()), constant(t, 4), own()} {
			h := look.New()
			swap(t, h, x)
			for _, k := range wrongKeys(good) {
				if n, e := look.Find(x, k); n != 0 || e != api.ErrArg {
					t.Errorf("Find(%+v): %d %v", k, n, e)
				}
				if n, e := h.Find(k); n != 0 || e != api.ErrArg {
					t.Errorf("a holder's Find(%+v): %d %v", k, n, e)
				}
			}
			wantTurns(t, h, 1)
			if n, e := h.Find(good); e != api.OK {
				t.Errorf("Find(%+v): %d %v", good, n, e)
			}
		}
		for _, x := range wrongTables(t) {
			for _, k := range wrongKeys(good) {
				if n, e := look.Find(x, k); n != 0 || e != api.ErrArg {
					t.Errorf("Find(%+v, %+v): %d %v", x, k, n, e)
				}
			}
		}
	}
}

// numberLists are all of the lists of numbers in tables.
func numberLists(x *api.Tables) []*[]int {
	list := []*[]int{&x.First}
	for i := range x.Dims {
		list = append(list, &x.Dims[i].Class)
		for j := range x.Dims[i].Sets {
			list = append(list, &x.Dims[i].Sets[j])
		}
	}
	for i := range x.Crosses {
		list = append(list, &x.Crosses[i].Cells)
		for j := range x.Crosses[i].Sets {
			list = append(list, &x.Crosses[i].Sets[j])
		}
	}
	return list
}

// fill writes over a list, also behind its end.
func fill[E any](list []E, x E) {
	list = list[:cap(list)]
	for i := range list {
		list[i] = x
	}
}

// overs write over one kind of list each, in all of the tables.
func overs() map[string]func(x api.Tables) {
	return map[string]func(x api.Tables){
		"numbers": func(x api.Tables) {
			for _, list := range numberLists(&x) {
				fill(*list, -9)
			}
		},
		"zeros": func(x api.Tables) {
			for _, list := range numberLists(&x) {
				fill(*list, 0)
			}
		},
		"starts": func(x api.Tables) {
			for _, c := range x.Dims {
				fill(c.Starts, pt(9, 9, 9))
			}
		},
		"sets": func(x api.Tables) {
			for _, c := range x.Dims {
				fill(c.Sets, []int{-9})
			}
			for _, c := range x.Crosses {
				fill(c.Sets, []int{-9})
			}
		},
		"dims":    func(x api.Tables) { fill(x.Dims, api.Chunk{}) },
		"crosses": func(x api.Tables) { fill(x.Crosses, api.Cross{Width: -9}) },
		"widths": func(x api.Tables) {
			for i := range x.Crosses {
				x.Crosses[i].Width = 0
			}
		},
		"first": func(x api.Tables) { fill(x.First, 77) },
	}
}

// R4: a holder keeps nothing of what it was handed: each list of it may be written over.
func TestWrittenOver(t *testing.T) {
	for name, over := range overs() {
		for _, make := range []func() api.Tables{own, func() api.Tables { return compile(t, only(dimDport, 80), only(dimFrom, 3)) }} {
			h, x, old := look.New(), make(), make()
			swap(t, h, x)
			over(x)
			for dim := range dims {
				for n := range 15 {
					k := with(middle(), dim, n, 0)
					want, _ := look.Find(old, k)
					if got, e := h.Find(k); got != want || e != api.OK {
						t.Errorf("%s: Find(%+v): %d %v, want %d", name, k, got, e, want)
					}
				}
			}
			wantTurns(t, h, 1)
		}
	}
}

// roomy are tables whose lists have something behind their ends.
func roomy() api.Tables {
	x := own()
	for _, list := range numberLists(&x) {
		*list = append(slices.Clone(*list), 77)[:len(*list)]
	}
	for i := range x.Dims {
		c := &x.Dims[i]
		c.Starts = append(slices.Clone(c.Starts), pt(7, 8, 9))[:len(c.Starts)]
		c.Sets = append(slices.Clone(c.Sets), []int{75})[:len(c.Sets)]
	}
	for i := range x.Crosses {
		c := &x.Crosses[i]
		c.Sets = append(slices.Clone(c.Sets), []int{76})[:len(c.Sets)]
	}
	x.Dims = append(x.Dims, api.Chunk{Class: []int{78}})[:len(x.Dims)]
	x.Crosses = append(x.Crosses, api.Cross{Width: 79})[:len(x.Crosses)]
	return x
}

// unroll has all of tables as one list of numbers, also what is behind the ends of their lists.
func unroll(x api.Tables) []int {
	var out []int
	add := func(list []int) { out = append(append(out, len(list)), list[:cap(list)]...) }
	sets := func(list [][]int) {
		out = append(out, len(list))
		for _, s := range list[:cap(list)] {
			add(s)
		}
	}
	out = append(out, len(x.Dims), len(x.Crosses))
	for _, c := range x.Dims[:cap(x.Dims)] {
		for _, p := range c.Starts[:cap(c.Starts)] {
			out = append(out, int(p.A), int(p.B), int(p.C))
		}
		add(c.Class)
		sets(c.Sets)
	}
	for _, c := range x.Crosses[:cap(x.Crosses)] {
		out = append(out, c.Width)
		add(c.Cells)
		sets(c.Sets)
	}
	add(x.First)
	return out
}

// R4: tables that are handed in are not turned, nor what lies behind the ends of their lists, whether they may be or not.
func TestHandedIn(t *testing.T) {
	for _, write := range []func(x *api.Tables){
		func(x *api.Tables) {},
		func(x *api.Tables) { x.First[0] = -2 },
		func(x *api.Tables) { x.Crosses[3].Cells[5] = -1 },
		func(x *api.Tables) { slices.Reverse(x.Dims[2].Starts) },
		func(x *api.Tables) { slices.Reverse(x.Dims[2].Sets[0]) },
		func(x *api.Tables) { slices.Reverse(x.Crosses[2].Sets[0]) },
	} {
		x := roomy()
		write(&x)
		before := unroll(x)
		h := look.New()
		ask := func() {
			look.Check(x)
			for _, k := range append(wrongKeys(middle()), middle(), middle6()) {
				look.Find(x, k)
				h.Find(k)
			}
		}
		ask()
		h.Swap(x)
		ask()
		h.Swap(compile(t))
		ask()
		if !slices.Equal(unroll(x), before) {
			t.Errorf("%+v was turned", x)
		}
	}
}
