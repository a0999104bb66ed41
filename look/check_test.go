package look_test

import (
	"math"
	"testing"

	"stockade/api"
	"stockade/look"
)

// classes are how many each Dim has in the tables that own has.
var classes = [dims]int{2, 3, 3, 2, 2, 2, 4}

// own are tables that nothing compiled, and that may be: each cell has a number of its own, and so each row of classes of a key comes to a class of its own, which First has with 1000 more.
func own() api.Tables {
	var t api.Tables
	for dim, n := range classes {
		c := api.Chunk{}
		for i := range n {
			p := pt(0, 0, uint64(5*i))
			if i > 0 && (dim == dimSrc || dim == dimDst) {
				p.A = 4
			}
			c.Starts = append(c.Starts, p)
			c.Class = append(c.Class, n-1-i)
			c.Sets = append(c.Sets, []int{i, i + 7})
		}
		t.Dims = append(t.Dims, c)
	}
	sets := classes[:]
	for _, s := range [crosses][2]int{{0, 1}, {2, 3}, {5, 6}, {8, 9}, {10, 4}, {11, 7}} {
		x := api.Cross{Width: sets[s[1]]}
		for i := range sets[s[0]] * sets[s[1]] {
			x.Cells = append(x.Cells, i)
			x.Sets = append(x.Sets, []int{i, i + 5, 1000})
		}
		t.Crosses = append(t.Crosses, x)
		sets = append(sets, len(x.Sets))
	}
	for i := range t.Crosses[crosses-1].Sets {
		t.First = append(t.First, 1000+i)
	}
	return t
}

// P13.1: which class of each side a cross is asked with, in tables in which all are told apart.
func TestSidesInOrder(t *testing.T) {
	x := own()
	wantCheck(t, "own", x, true)
	seen := 0
	var pieces [dims]int
	for {
		part := func(dim, low int) int { return 5*pieces[dim] + low }
		for _, low := range []int{0, 4} {
			k := api.Key{From: part(0, low), To: part(1, low), Src: a4(uint64(part(2, low))), Dst: a4(uint64(part(3, low))), Proto: part(4, low), Sport: part(5, low), Dport: part(6, low)}
			class := func(dim int) int { return classes[dim] - 1 - pieces[dim] }
			nets, ports, zones := class(2)*2+class(3), class(5)*4+class(6), class(0)*3+class(1)
			want := 1000 + ((nets*8+ports)*2+class(4))*6 + zones
			if n, e := look.Find(x, k); n != want || e != api.OK {
				t.Fatalf("Find(%+v): %d %v, want %d", k, n, e, want)
			}
		}
		seen++
		dim := 0
		for ; dim < dims && pieces[dim] == classes[dim]-1; dim++ {
			pieces[dim] = 0
		}
		if dim == dims {
			break
		}
		pieces[dim]++
	}
	if seen != 576 {
		t.Error(seen)
	}
}

type tablesCase struct {
	name  string
	right bool
	write func(t *api.Tables)
}

func wantCases(t *testing.T, make func() api.Tables, cases []tablesCase) {
	t.Helper()
	for _, c := range cases {
		x := make()
		c.write(&x)
		wantCheck(t, c.name, x, c.right)
	}
}

// P13.1: how many Dims and Crosses there may be.
func TestCheckCounts(t *testing.T) {
	type T = *api.Tables
	for _, make := range []func() api.Tables{own, func() api.Tables { return compile(t) }} {
		wantCases(t, make, []tablesCase{
			{"as it is", true, func(t T) {}},
			{"nothing at all", false, func(t T) { *t = api.Tables{} }},
			{"empty lists", false, func(t T) { *t = api.Tables{Dims: []api.Chunk{}, Crosses: []api.Cross{}, First: []int{}} }},
			{"zero Dims and Crosses", false, func(t T) { *t = api.Tables{Dims: make7(), Crosses: make6()} }},
			{"six Dims", false, func(t T) { t.Dims = t.Dims[:6] }},
			{"six Dims, the first missing", false, func(t T) { t.Dims = t.Dims[1:] }},
			{"six Dims, no cells of the last", false, func(t T) { t.Dims = t.Dims[:6]; t.Crosses[2].Width, t.Crosses[2].Cells = 0, nil }},
			{"eight Dims", false, func(t T) { t.Dims = append(t.Dims, t.Dims[6]) }},
			{"a zero Dim more", false, func(t T) { t.Dims = append(t.Dims, api.Chunk{}) }},
			{"no Dims", false, func(t T) { t.Dims = nil }},
			{"one Dim", false, func(t T) { t.Dims = t.Dims[:1] }},
			{"five Crosses", false, func(t T) { t.Crosses = t.Crosses[:5] }},
			{"five Crosses, First of the fifth", false, func(t T) { t.Crosses = t.Crosses[:5]; t.First = t.First[:len(t.Crosses[4].Sets)] }},
			{"seven Crosses", false, func(t T) { t.Crosses = append(t.Crosses, t.Crosses[5]) }},
			{"seven Crosses, the first one twice", false, func(t T) { t.Crosses = append([]api.Cross{t.Crosses[0]}, t.Crosses...) }},
			{"a zero Cross more", false, func(t T) { t.Crosses = append(t.Crosses, api.Cross{}) }},
			{"no Crosses", false, func(t T) { t.Crosses = nil }},
			{"no First", false, func(t T) { t.First = nil }},
		})
	}
}

func make7() []api.Chunk { return make([]api.Chunk, 7) }

func make6() []api.Cross { return make([]api.Cross, 6) }

// P13.1: each Dim is right.
func TestCheckDims(t *testing.T) {
	for dim := range dims {
		write := func(turn func(c *api.Chunk)) func(t *api.Tables) {
			return func(t *api.Tables) { turn(&t.Dims[dim]) }
		}
		type C = *api.Chunk
		wantCases(t, own, []tablesCase{
			{"zero", false, write(func(c C) { *c = api.Chunk{} })},
			{"no starts", false, write(func(c C) { c.Starts = nil })},
			{"no pieces", false, write(func(c C) { c.Starts, c.Class = nil, nil })},
			{"first start", false, write(func(c C) { c.Starts[0].C = 1 })},
			{"a start twice", false, write(func(c C) { c.Starts[1] = c.Starts[0] })},
			{"starts fall", false, write(func(c C) { c.Starts[0], c.Starts[1] = c.Starts[1], c.Starts[0] })},
			{"a start further on", true, write(func(c C) { c.Starts[1].C++ })},
			{"a piece more", true, write(func(c C) { c.Starts, c.Class = append(c.Starts, pt(7, 0, 0)), append(c.Class, 0) })},
			{"one piece", true, write(func(c C) { c.Starts, c.Class = c.Starts[:1], c.Class[:1] })},
			{"a class of -1", false, write(func(c C) { c.Class[1] = -1 })},
			{"a class of as many", false, write(func(c C) { c.Class[0] = len(c.Sets) })},
			{"a class of one less", true, write(func(c C) { c.Class[1] = len(c.Sets) - 1 })},
			{"a class less", false, write(func(c C) { c.Class = c.Class[1:] })},
			{"a class more", false, write(func(c C) { c.Class = append(c.Class, 0) })},
			{"a set below 0", false, write(func(c C) { c.Sets[0][0] = -1 })},
			{"a set that does not rise", false, write(func(c C) { c.Sets[0][1] = 0 })},
			{"an empty set", true, write(func(c C) { c.Sets[1] = nil })},
			{"two sets of one memory", true, write(func(c C) { c.Sets[0] = c.Sets[1] })},
			{"great numbers", true, write(func(c C) { c.Sets[1] = []int{64, math.MaxInt} })},
			// Each Set counts for the crosses, also one that no piece asks for.
			{"a set more", false, write(func(c C) { c.Sets = append(c.Sets, nil) })},
			{"a set less", false, write(func(c C) { c.Sets, c.Class = c.Sets[:len(c.Sets)-1], make([]int, len(c.Starts)) })},
			{"no sets", false, write(func(c C) { c.Sets = nil })},
		})
	}
}

// P13.1: each cross has the Width and the cells of its sides, and numbers and sets that may be.
func TestCheckCrosses(t *testing.T) {
	for i := range crosses {
		write := func(turn func(x *api.Cross)) func(t *api.Tables) {
			return func(t *api.Tables) { turn(&t.Crosses[i]) }
		}
		type X = *api.Cross
		width := func(n int) func(t *api.Tables) { return write(func(x X) { x.Width = n }) }
		cell := func(at func(x X) int, n func(x X) int) func(t *api.Tables) {
			return write(func(x X) { x.Cells[at(x)] = n(x) })
		}
		head, tail := func(x X) int { return 0 }, func(x X) int { return len(x.Cells) - 1 }
		number := func(n int) func(x X) int { return func(X) int { return n } }
		cases := []tablesCase{
			{"zero", false, write(func(x X) { *x = api.Cross{} })},
			{"Width 0", false, width(0)},
			{"Width 0, no cells", false, write(func(x X) { x.Width, x.Cells = 0, nil })},
			{"Width -1", false, width(-1)},
			{"Width one less", false, write(func(x X) { x.Width-- })},
			{"Width one more", false, write(func(x X) { x.Width++ })},
			{"Width of all cells", false, write(func(x X) { x.Width = len(x.Cells) })},
			{"Width below 0", false, write(func(x X) { x.Width = -x.Width })},
			{"the least Width", false, width(math.MinInt)},
			{"the greatest Width", false, width(math.MaxInt)},
			{"Width that goes round", false, width(1 << 32)},
			{"a cell too few", false, write(func(x X) { x.Cells = x.Cells[1:] })},
			{"a cell too many", false, write(func(x X) { x.Cells = append(x.Cells, 0) })},
			{"a row too few", false, write(func(x X) { x.Cells = x.Cells[x.Width:] })},
			{"a row too many", false, write(func(x X) { x.Cells = append(x.Cells, x.Cells[:x.Width]...) })},
			{"no cells", false, write(func(x X) { x.Cells = nil })},
			{"a first cell of -1", false, cell(head, number(-1))},
			{"a last cell of -1", false, cell(tail, number(-1))},
			{"a first cell of as many", false, cell(head, func(x X) int { return len(x.Sets) })},
			{"a last cell of as many", false, cell(tail, func(x X) int { return len(x.Sets) })},
			{"a first cell of one below", true, cell(head, func(x X) int { return len(x.Sets) - 1 })},
			{"a last cell of one below", true, cell(tail, func(x X) int { return len(x.Sets) - 1 })},
			{"a last cell of 0", true, cell(tail, number(0))},
			{"the least cell", false, cell(head, number(math.MinInt))},
			{"the greatest cell", false, cell(tail, number(math.MaxInt))},
			{"a set that falls", false, write(func(x X) { x.Sets[0] = []int{2, 1} })},
			{"a last set that falls", false, write(func(x X) { x.Sets[len(x.Sets)-1] = []int{0, 3, 2} })},
			{"a number twice", false, write(func(x X) { x.Sets[1] = []int{0, 4, 4} })},
			{"0 twice", false, write(func(x X) { x.Sets[1] = []int{0, 0} })},
			{"a set below 0", false, write(func(x X) { x.Sets[1][0] = -1 })},
			{"a set of -1", false, write(func(x X) { x.Sets[1] = []int{-1} })},
			{"a set of the least", false, write(func(x X) { x.Sets[1] = []int{math.MinInt, 0} })},
			{"a set of 0", true, write(func(x X) { x.Sets[1] = []int{0} })},
			{"a set of the greatest", true, write(func(x X) { x.Sets[1] = []int{0, math.MaxInt} })},
			{"an empty set", true, write(func(x X) { x.Sets[0] = nil })},
			{"a set twice", true, write(func(x X) { x.Sets[0] = x.Sets[1] })},
			{"a set too few", false, write(func(x X) { x.Sets = x.Sets[:len(x.Sets)-1] })},
			// The crosses behind it, or First, are as if this one had a set less, or one more.
			{"a set that no cell asks for", false, write(func(x X) { x.Sets = append(x.Sets, nil) })},
			{"no sets", false, write(func(x X) { x.Sets = nil })},
			{"nothing but Width", false, write(func(x X) { x.Cells, x.Sets = nil, nil })},
			{"another cross's place", false, func(t *api.Tables) {
				t.Crosses[i], t.Crosses[(i+1)%crosses] = t.Crosses[(i+1)%crosses], t.Crosses[i]
			}},
		}
		wantCases(t, own, cases)
	}
}

// P13.1: what stands behind a set that no cell asks for is as wide as that: then it may be.
func TestCheckSpareSets(t *testing.T) {
	x := compile(t)
	for i := range crosses {
		x.Crosses[i].Sets = append(x.Crosses[i].Sets, []int{3})
	}
	for i := range 3 {
		wantCheck(t, "too narrow", x, false)
		c := &x.Crosses[3+i]
		c.Width, c.Cells = []int{2, 1, 2}[i], make([]int, []int{4, 2, 4}[i])
	}
	wantCheck(t, "First too short", x, false)
	x.First = []int{8, 9}
	wantCheck(t, "spare sets", x, true)
	wantFound(t, x, middle(), 8)
	x.Crosses[5].Cells[0] = 1
	wantFound(t, x, middle(), 9)
	x.Crosses[5].Cells = []int{0, 0, 0, 1}
	wantFound(t, x, middle(), 8)
	x.Crosses[0].Cells[0], x.Crosses[4].Cells[0] = 1, 1
	wantFound(t, x, middle(), 9)
}

// P13.1: First has a number for each class, from -1 on.
func TestCheckFirst(t *testing.T) {
	type T = *api.Tables
	for _, make := range []func() api.Tables{own, func() api.Tables { return compile(t, only(dimFrom, 3), anything()) }} {
		wantCases(t, make, []tablesCase{
			{"too short", false, func(t T) { t.First = t.First[1:] }},
			{"too long", false, func(t T) { t.First = append(t.First, 0) }},
			{"none", false, func(t T) { t.First = nil }},
			{"empty", false, func(t T) { t.First = []int{} }},
			{"-1", true, func(t T) { t.First[0], t.First[len(t.First)-1] = -1, -1 }},
			{"a first -2", false, func(t T) { t.First[0] = -2 }},
			{"a last -2", false, func(t T) { t.First[len(t.First)-1] = -2 }},
			{"the least", false, func(t T) { t.First[1] = math.MinInt }},
			{"the greatest", true, func(t T) { t.First[1] = math.MaxInt }},
			{"as many as sets of a cross ahead", false, func(t T) { t.First = t.First[:len(t.Crosses[0].Sets)-1] }},
		})
	}
	for _, n := range []int{-1, 0, 1, 63, 64, 1 << 40, math.MaxInt} {
		x := compile(t)
		x.First[0] = n
		wantCheck(t, "a number", x, true)
		wantFound(t, x, middle(), n)
	}
}

// R6: a list that is nil and one that is empty are the same.
func TestNilOrEmpty(t *testing.T) {
	x, y := compile(t), compile(t)
	for i := range dims {
		x.Dims[i].Sets[0], y.Dims[i].Sets[0] = nil, []int{}
	}
	for i := range crosses {
		x.Crosses[i].Sets[0], y.Crosses[i].Sets[0] = nil, []int{}
	}
	wantCheck(t, "nil", x, true)
	wantCheck(t, "empty", y, true)
	x.Dims[3], y.Dims[3] = api.Chunk{}, api.Chunk{Starts: []api.Point{}, Class: []int{}, Sets: [][]int{}}
	wantCheck(t, "nil Dim", x, false)
	wantCheck(t, "empty Dim", y, false)
	x, y = compile(t), compile(t)
	x.Crosses[3], y.Crosses[3] = api.Cross{Width: 1}, api.Cross{Width: 1, Cells: []int{}, Sets: [][]int{}}
	wantCheck(t, "nil cross", x, false)
	wantCheck(t, "empty cross", y, false)
}

// R1: tables of very many classes, cells and sets.
func TestLongTables(t *testing.T) {
	const n = 200000
	x := compile(t)
	d := api.Chunk{Starts: make([]api.Point, n), Class: make([]int, n), Sets: make([][]int, n)}
	c := api.Cross{Width: 1, Cells: make([]int, n), Sets: make([][]int, n)}
	x.First = make([]int, n)
	for i := range n {
		d.Starts[i], d.Class[i], d.Sets[i] = pt(0, 0, uint64(i)), n-1-i, []int{i}
		c.Cells[i], c.Sets[i] = n-1-i, []int{i, n}
		x.First[i] = i - 1
	}
	x.Dims[dimSport] = d
	x.Crosses[2], x.Crosses[4], x.Crosses[5] = c, c, c
	x.Crosses[3] = api.Cross{Width: n, Cells: c.Cells, Sets: c.Sets}
	k := middle()
	for _, port := range []int{0, 1, 1000, 65535} {
		k.Sport = port
		wantLong(t, x, k, n-2-port)
	}
	x.Crosses[4].Cells = append([]int{n}, x.Crosses[4].Cells[1:]...)
	if look.Check(x) {
		t.Error("a cell of as many")
	}
	many := api.Tables{Dims: make([]api.Chunk, n), Crosses: make([]api.Cross, n), First: make([]int, n)}
	if look.Check(many) {
		t.Error("many Dims and Crosses")
	}
}

// wantLong tells no tables, which would be too long to read.
func wantLong(t *testing.T, x api.Tables, k api.Key, want int) {
	t.Helper()
	h := look.New()
	n, e := look.Find(x, k)
	if n != want || e != api.OK || !look.Check(x) || h.Swap(x) != api.OK {
		t.Fatal(k, n, e, want)
	}
	wantHeld(t, h, k, want)
}
