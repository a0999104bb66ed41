package rfc_test

import (
	"math"
	"slices"
	"testing"

	"stockade/api"
	"stockade/rfc"
)

// odds are tables that no rules have: few Dims and crosses, with numbers of all kinds.
func odds() api.Tables {
	return api.Tables{
		Dims: []api.Chunk{
			cut([]api.Point{pt(1, 2, 3), pt(0, 0, 0)}, []int{5, -1, 7}, []int{3, 1}, nil, []int{-4}),
			{},
			cut(points(4, 4, 4), nil, []int{0}),
		},
		Crosses: []api.Cross{
			cross(-3, []int{9, -9, math.MaxInt}, []int{2, 2}, []int{}),
			cross(math.MaxInt, nil, []int{1}),
			cross(0, []int{8}),
		},
		First: []int{-5, 6, 6},
	}
}

func wantSame(t testing.TB, name string, a, b api.Tables, want bool) {
	t.Helper()
	if rfc.Same(a, b) != want || rfc.Same(b, a) != want {
		t.Errorf("%s: Same(%+v, %+v): %v", name, a, b, !want)
	}
}

// turns write one thing in tables: of the cut d, of the cross x, and of First.
func turns() map[string]func(t *api.Tables, d *api.Chunk, x *api.Cross) {
	type T = *api.Tables
	type D = *api.Chunk
	type X = *api.Cross
	return map[string]func(t *api.Tables, d *api.Chunk, x *api.Cross){
		"A":                    func(t T, d D, x X) { d.Starts[0].A++ },
		"B":                    func(t T, d D, x X) { d.Starts[0].B++ },
		"C":                    func(t T, d D, x X) { d.Starts[len(d.Starts)-1].C++ },
		"a start less":         func(t T, d D, x X) { d.Starts = d.Starts[1:] },
		"a start more":         func(t T, d D, x X) { d.Starts = append(d.Starts, pt(9, 9, 9)) },
		"no starts":            func(t T, d D, x X) { d.Starts = nil },
		"first class":          func(t T, d D, x X) { d.Class[0]++ },
		"last class":           func(t T, d D, x X) { d.Class[len(d.Class)-1]-- },
		"a class less":         func(t T, d D, x X) { d.Class = d.Class[1:] },
		"a class more":         func(t T, d D, x X) { d.Class = append(d.Class, 0) },
		"a cut's set":          func(t T, d D, x X) { d.Sets[0] = append([]int{8}, d.Sets[0]...) },
		"a cut's empty set":    func(t T, d D, x X) { d.Sets = append(d.Sets, nil) },
		"a cut's set less":     func(t T, d D, x X) { d.Sets = d.Sets[1:] },
		"Width more":           func(t T, d D, x X) { x.Width++ },
		"Width less":           func(t T, d D, x X) { x.Width-- },
		"first cell":           func(t T, d D, x X) { x.Cells[0]++ },
		"last cell":            func(t T, d D, x X) { x.Cells[len(x.Cells)-1]-- },
		"a cell less":          func(t T, d D, x X) { x.Cells = x.Cells[:len(x.Cells)-1] },
		"a cell more":          func(t T, d D, x X) { x.Cells = append(x.Cells, 0) },
		"no cells":             func(t T, d D, x X) { x.Cells = nil },
		"a cross's number":     func(t T, d D, x X) { x.Sets[0][0]++ },
		"a cross's longer set": func(t T, d D, x X) { x.Sets[1] = append(slices.Clone(x.Sets[1]), 70) },
		"a cross's short set":  func(t T, d D, x X) { x.Sets[0] = x.Sets[0][1:] },
		"a cross's set less":   func(t T, d D, x X) { x.Sets = x.Sets[:len(x.Sets)-1] },
		"a cross's empty set":  func(t T, d D, x X) { x.Sets = append(x.Sets, nil) },
		"a cross's sets":       func(t T, d D, x X) { x.Sets[0], x.Sets[1] = x.Sets[1], x.Sets[0] },
		"no cross's sets":      func(t T, d D, x X) { x.Sets = nil },
		"first First":          func(t T, d D, x X) { t.First[0]++ },
		"last First":           func(t T, d D, x X) { t.First[len(t.First)-1]-- },
		"a First less":         func(t T, d D, x X) { t.First = t.First[:len(t.First)-1] },
		"a First more":         func(t T, d D, x X) { t.First = append(t.First, -1) },
		"no First":             func(t T, d D, x X) { t.First = nil },
		"a Dim less":           func(t T, d D, x X) { t.Dims = t.Dims[:len(t.Dims)-1] },
		"a Dim more":           func(t T, d D, x X) { t.Dims = append(t.Dims, api.Chunk{}) },
		"no Dims":              func(t T, d D, x X) { t.Dims = nil },
		"a cross less":         func(t T, d D, x X) { t.Crosses = t.Crosses[:len(t.Crosses)-1] },
		"a cross more":         func(t T, d D, x X) { t.Crosses = append(t.Crosses, api.Cross{}) },
		"no crosses":           func(t T, d D, x X) { t.Crosses = nil },
	}
}

// P12.2: each part of tables counts for Same, of every Dim and every cross.
func TestSame(t *testing.T) {
	rules := []api.Rule{exact(middle()), only(dimDport, 3), anything()}
	for name, turn := range turns() {
		for dim := range dims {
			for i := range 6 {
				x, y := mustCompile(t, rules, most), mustCompile(t, rules, most)
				wantSame(t, name, x, y, true)
				c := &y.Crosses[i]
				if len(c.Sets) < 2 {
					t.Fatal("a cross of one set tells too little")
				}
				if len(c.Sets[0]) == 0 {
					c.Sets[0], x.Crosses[i].Sets[0] = []int{5}, []int{5}
				}
				turn(&y, &y.Dims[dim], c)
				wantSame(t, name, x, y, alike(x, y))
				if alike(x, y) {
					t.Fatalf("%s, %d, %d: nothing was turned", name, dim, i)
				}
				wantSame(t, name, y, y, true)
			}
		}
		x, y := odds(), odds()
		wantSame(t, name, x, y, true)
		turn(&y, &y.Dims[0], &y.Crosses[0])
		wantSame(t, name, x, y, false)
		wantSame(t, name, y, y, true)
		wantSame(t, name, y, api.Tables{}, false)
	}
}

// P12.2: tables of unlike rules are unlike, but for what a rule does.
func TestSameOfRules(t *testing.T) {
	lists := [][]api.Rule{nil, {anything()}, {anything(), anything()}}
	for dim := range dims {
		lists = append(lists, []api.Rule{only(dim, 3)}, []api.Rule{only(dim, 4)}, []api.Rule{only(dim, 3), anything()}, []api.Rule{anything(), only(dim, 3)})
	}
	for i, a := range lists {
		for j, b := range lists {
			wantSame(t, "rules", mustCompile(t, a, most), mustCompile(t, b, most), i == j)
		}
	}
	r := anything()
	r.Action, r.Help = api.Allow, api.SIP
	wantSame(t, "what it does", mustCompile(t, []api.Rule{r}, most), mustCompile(t, []api.Rule{anything()}, most), true)
}

// P12.2: the cost are all pieces and all cells, and nothing else, also of tables that nothing answers.
func TestCost(t *testing.T) {
	wantCost := func(name string, x api.Tables, want int) {
		t.Helper()
		if got := rfc.Cost(x); got != want {
			t.Errorf("%s: Cost(%+v): %d, want %d", name, x, got, want)
		}
	}
	wantCost("none", api.Tables{}, 0)
	wantCost("empty", api.Tables{Dims: []api.Chunk{}, Crosses: []api.Cross{}, First: []int{}}, 0)
	wantCost("no lists", api.Tables{Dims: make([]api.Chunk, 9), Crosses: make([]api.Cross, 9), First: make([]int, 9)}, 0)
	wantCost("odds", odds(), 2+0+3+3+0+1)
	wantCost("one piece", api.Tables{Dims: []api.Chunk{cut(points(0), nil)}}, 1)
	wantCost("one cell", api.Tables{Crosses: []api.Cross{cross(0, []int{0})}}, 1)
	wantCost("sets", api.Tables{Dims: []api.Chunk{cut(nil, []int{1, 2}, []int{3})}, Crosses: []api.Cross{cross(7, nil, []int{1, 2})}, First: []int{1, 2, 3}}, 0)
	for i := range dims {
		x := mustCompile(t, nil, 13)
		x.Dims[i].Starts = append(x.Dims[i].Starts, pt(1, 1, 1), pt(2, 2, 2))
		wantCost("a longer Dim", x, 15)
	}
	for i := range 6 {
		x := mustCompile(t, nil, 13)
		x.Crosses[i].Cells = append(x.Crosses[i].Cells, 0, 0, 0)
		wantCost("a longer cross", x, 16)
	}
	x := mustCompile(t, nil, 13)
	x.Dims, x.Crosses = append(x.Dims, x.Dims...), append(x.Crosses, x.Crosses...)
	wantCost("twice as many", x, 26)
}

// R6: a list that is nil and one that is empty are the same, in each place.
func TestNilOrEmpty(t *testing.T) {
	empty := api.Tables{Dims: []api.Chunk{}, Crosses: []api.Cross{}, First: []int{}}
	wantSame(t, "empty", api.Tables{}, empty, true)
	a := api.Tables{Dims: make([]api.Chunk, 2), Crosses: make([]api.Cross, 2)}
	b := api.Tables{Dims: make([]api.Chunk, 2), Crosses: make([]api.Cross, 2), First: []int{}}
	for i := range 2 {
		b.Dims[i] = api.Chunk{Starts: []api.Point{}, Class: []int{}, Sets: [][]int{}}
		b.Crosses[i] = api.Cross{Cells: []int{}, Sets: [][]int{}}
	}
	wantSame(t, "empty lists", a, b, true)
	wantSame(t, "none and some", a, empty, false)
	a.Dims[1].Sets, b.Dims[1].Sets = [][]int{nil}, [][]int{{}}
	a.Crosses[1].Sets, b.Crosses[1].Sets = [][]int{{}}, [][]int{nil}
	wantSame(t, "empty sets", a, b, true)
	x, y := mustCompile(t, nil, 13), mustCompile(t, []api.Rule{}, 13)
	wantSame(t, "no rules", x, y, true)
	for i := range 6 {
		x.Crosses[i].Sets[0], y.Crosses[i].Sets[0] = nil, []int{}
	}
	wantSame(t, "no rules", x, y, true)
}

// R1: long tables, of one memory and of much.
func TestLongTables(t *testing.T) {
	const n = 100000
	c := api.Chunk{Starts: make([]api.Point, 1000), Class: make([]int, n), Sets: make([][]int, n)}
	x := api.Cross{Width: math.MinInt, Cells: make([]int, 1000), Sets: make([][]int, 10)}
	long := api.Tables{Dims: make([]api.Chunk, n), Crosses: make([]api.Cross, n), First: make([]int, n)}
	for i := range n {
		long.Dims[i], long.Crosses[i] = api.Chunk{Starts: c.Starts}, x
	}
	long.Dims[n-1] = c
	if got := rfc.Cost(long); got != 2*1000*n {
		t.Error(got)
	}
	other := long
	other.Crosses = slices.Clone(long.Crosses)
	wantSame(t, "long", api.Tables{First: long.First, Dims: []api.Chunk{c}}, api.Tables{First: other.First, Dims: []api.Chunk{c}}, true)
	other.Crosses[n-1].Width++
	if !rfc.Same(api.Tables{Crosses: long.Crosses}, api.Tables{Crosses: slices.Clone(long.Crosses)}) {
		t.Error("crosses")
	}
	wantSame(t, "the last cross", api.Tables{Crosses: long.Crosses}, api.Tables{Crosses: other.Crosses}, false)
}
