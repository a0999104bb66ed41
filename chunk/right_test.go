package chunk_test

import (
	"math"
	"slices"
	"testing"

	"stockade/api"
	"stockade/chunk"
)

// pieces is a right cut: five pieces, three classes.
func pieces() api.Chunk {
	return want([]api.Point{{}, pt(0, 0, 5), pt(0, 3, 0), pt(4, 0, 9), pt(6, most, most)}, []int{2, 0, 1, 0, 2}, []int{0, 3}, nil, []int{1})
}

func wantRight(t testing.TB, name string, c api.Chunk, right bool) {
	t.Helper()
	if got := chunk.Right(c); got != right {
		t.Errorf("%s: Right(%+v): %v", name, c, got)
	}
	if right {
		return
	}
	for _, p := range append(slices.Clone(c.Starts), pt(0, 0, 0), pt(0, 0, 7), pt(most, most, most)) {
		wantFind(t, c, p, 0, false)
	}
}

func wantFind(t testing.TB, c api.Chunk, p api.Point, want int, there bool) {
	t.Helper()
	if got, ok := chunk.Find(c, p); got != want || ok != there {
		t.Errorf("Find(%+v, %+v): %d %v, want %d %v", c, p, got, ok, want, there)
	}
}

// P11.2: which cuts are right, and that Find answers nothing of one that is not.
func TestRight(t *testing.T) {
	for _, c := range []struct {
		name  string
		right bool
		write func(c *api.Chunk)
	}{
		{"as it is", true, func(c *api.Chunk) {}},
		{"no starts", false, func(c *api.Chunk) { c.Starts = nil }},
		{"nothing at all", false, func(c *api.Chunk) { *c = api.Chunk{} }},
		{"empty lists", false, func(c *api.Chunk) { *c = want([]api.Point{}, []int{}, []int{}) }},
		{"nothing but a set", false, func(c *api.Chunk) { c.Starts, c.Class = nil, nil }},
		{"one start", true, func(c *api.Chunk) { c.Starts, c.Class = c.Starts[:1], c.Class[:1] }},
		{"one piece, no set", false, func(c *api.Chunk) { *c = want(points(0), []int{0}) }},
		{"one piece, an empty set", true, func(c *api.Chunk) { *c = want(points(0), []int{0}, nil) }},
		{"first C", false, func(c *api.Chunk) { c.Starts[0].C = 1 }},
		{"first B", false, func(c *api.Chunk) { c.Starts[0].B = 1; c.Starts[1].B = 2 }},
		{"first A", false, func(c *api.Chunk) { c.Starts, c.Class = []api.Point{pt(1, 0, 0)}, []int{0} }},
		{"first missing", false, func(c *api.Chunk) { c.Starts, c.Class = c.Starts[1:], c.Class[1:] }},
		{"first twice", false, func(c *api.Chunk) { c.Starts[1] = api.Point{} }},
		{"a start twice", false, func(c *api.Chunk) { c.Starts[2] = c.Starts[1] }},
		{"the last start twice", false, func(c *api.Chunk) { c.Starts[3] = c.Starts[4] }},
		{"falling by C", false, func(c *api.Chunk) { c.Starts[1], c.Starts[2] = pt(0, 3, 9), pt(0, 3, 8) }},
		{"falling by B", false, func(c *api.Chunk) { c.Starts[1], c.Starts[2] = pt(0, 3, 1), pt(0, 2, 9) }},
		{"falling by A", false, func(c *api.Chunk) { c.Starts[3], c.Starts[4] = pt(5, 1, 1), pt(4, 9, 9) }},
		{"falling at the end", false, func(c *api.Chunk) { c.Starts[4] = pt(0, 3, 1) }},
		{"rising by C", true, func(c *api.Chunk) { c.Starts[1], c.Starts[2] = pt(0, 3, 8), pt(0, 3, 9) }},
		{"rising by B, C falls", true, func(c *api.Chunk) { c.Starts[1], c.Starts[2] = pt(0, 2, 9), pt(0, 3, 1) }},
		{"rising by A, B and C fall", true, func(c *api.Chunk) { c.Starts[3], c.Starts[4] = pt(4, 9, 9), pt(5, 1, 1) }},
		{"numbers of 64 bits", true, func(c *api.Chunk) { c.Starts[3], c.Starts[4] = pt(1<<63, 0, 0), pt(most, most, most) }},
		{"numbers of 64 bits fall", false, func(c *api.Chunk) { c.Starts[3], c.Starts[4] = pt(1<<63, 0, 0), pt(1<<63-1, most, most) }},
		{"no class", false, func(c *api.Chunk) { c.Class = nil }},
		{"a class too few", false, func(c *api.Chunk) { c.Class = c.Class[:4] }},
		{"a class too many", false, func(c *api.Chunk) { c.Class = append(c.Class, 0) }},
		{"a class of -1", false, func(c *api.Chunk) { c.Class[0] = -1 }},
		{"a class of -1 at the end", false, func(c *api.Chunk) { c.Class[4] = -1 }},
		{"a class that no set has", false, func(c *api.Chunk) { c.Class[2] = 3 }},
		{"one at the end", false, func(c *api.Chunk) { c.Class[4] = 3 }},
		{"the least class", false, func(c *api.Chunk) { c.Class[1] = math.MinInt }},
		{"the greatest class", false, func(c *api.Chunk) { c.Class[1] = math.MaxInt }},
		{"no sets", false, func(c *api.Chunk) { c.Sets = nil }},
		{"a set too few", false, func(c *api.Chunk) { c.Sets = c.Sets[:2] }},
		{"a set that nothing asks for", true, func(c *api.Chunk) { c.Sets = append(c.Sets, []int{4, 5}) }},
		{"a set below 0", false, func(c *api.Chunk) { c.Sets[0][0] = -1 }},
		{"a set of -1 alone", false, func(c *api.Chunk) { c.Sets[2] = []int{-1} }},
		{"a set of the least", false, func(c *api.Chunk) { c.Sets[2] = []int{math.MinInt, 4} }},
		{"a number twice", false, func(c *api.Chunk) { c.Sets[0][1] = 0 }},
		{"a set that falls", false, func(c *api.Chunk) { c.Sets[2] = []int{1, 5, 4} }},
		{"a set that falls to -1", false, func(c *api.Chunk) { c.Sets[2] = []int{1, 5, -1} }},
		{"a set that nothing asks for, wrong", false, func(c *api.Chunk) { c.Sets = append(c.Sets, []int{5, 4}) }},
		{"great numbers", true, func(c *api.Chunk) { c.Sets[2] = []int{0, 63, 64, 1 << 40, math.MaxInt} }},
		{"the same set twice", true, func(c *api.Chunk) { c.Sets[2] = []int{0, 3} }},
	} {
		bad := pieces()
		c.write(&bad)
		wantRight(t, c.name, bad, c.right)
	}
}

// near are the points one ahead of and one behind a point, and those far off in each part.
func near(p api.Point) []api.Point {
	return []api.Point{p, pt(p.A, p.B, p.C-1), pt(p.A, p.B, p.C+1), pt(p.A, p.B-1, p.C), pt(p.A, p.B+1, p.C), pt(p.A-1, p.B, p.C), pt(p.A+1, p.B, p.C),
		pt(p.A, p.B, most), pt(p.A, most, 0), pt(p.A, p.B, 0), pt(p.A, 0, most), pt(most, p.B, p.C)}
}

// P11.2: the class of the piece that holds a point: ahead of, at and behind each start, and behind all.
func TestFind(t *testing.T) {
	c := pieces()
	for _, x := range []struct {
		p    api.Point
		want int
	}{
		{pt(0, 0, 0), 2}, {pt(0, 0, 1), 2}, {pt(0, 0, 4), 2},
		{pt(0, 0, 5), 0}, {pt(0, 0, 6), 0}, {pt(0, 0, most), 0}, {pt(0, 1, 0), 0}, {pt(0, 2, most), 0},
		{pt(0, 3, 0), 1}, {pt(0, 3, 1), 1}, {pt(0, 4, 0), 1}, {pt(0, most, most), 1}, {pt(1, 0, 0), 1}, {pt(3, most, most), 1}, {pt(4, 0, 8), 1},
		{pt(4, 0, 9), 0}, {pt(4, 0, 10), 0}, {pt(4, 1, 0), 0}, {pt(5, 0, 0), 0}, {pt(6, 0, 0), 0}, {pt(6, most, most-1), 0}, {pt(6, most-1, most), 0},
		{pt(6, most, most), 2}, {pt(7, 0, 0), 2}, {pt(most, 0, 0), 2}, {pt(most, most, most), 2},
	} {
		wantFind(t, c, x.p, x.want, true)
	}
	one := want(points(0), []int{1}, nil, []int{7})
	for _, p := range near(api.Point{}) {
		wantFind(t, one, p, 1, true)
	}
}

// P11.2: each part of a cut counts for Same, also of cuts that are not right.
func TestSame(t *testing.T) {
	wantSame := func(name string, a, b api.Chunk, want bool) {
		t.Helper()
		if chunk.Same(a, b) != want || chunk.Same(b, a) != want {
			t.Errorf("%s: Same(%+v, %+v): %v", name, a, b, !want)
		}
	}
	wantSame("as it is", pieces(), pieces(), true)
	wantSame("none", api.Chunk{}, api.Chunk{}, true)
	wantSame("none and one", api.Chunk{}, pieces(), false)
	for name, write := range map[string]func(c *api.Chunk){
		"A":              func(c *api.Chunk) { c.Starts[3].A++ },
		"B":              func(c *api.Chunk) { c.Starts[3].B++ },
		"C":              func(c *api.Chunk) { c.Starts[3].C++ },
		"first start":    func(c *api.Chunk) { c.Starts[0].C = 1 },
		"last start":     func(c *api.Chunk) { c.Starts[4].C-- },
		"a start less":   func(c *api.Chunk) { c.Starts = c.Starts[:4] },
		"a start more":   func(c *api.Chunk) { c.Starts = append(c.Starts, pt(7, 0, 0)) },
		"no starts":      func(c *api.Chunk) { c.Starts = nil },
		"first class":    func(c *api.Chunk) { c.Class[0] = 1 },
		"last class":     func(c *api.Chunk) { c.Class[4] = 1 },
		"a class less":   func(c *api.Chunk) { c.Class = c.Class[:4] },
		"a class more":   func(c *api.Chunk) { c.Class = append(c.Class, 0) },
		"no class":       func(c *api.Chunk) { c.Class = nil },
		"a set's number": func(c *api.Chunk) { c.Sets[0][1] = 4 },
		"a set's last":   func(c *api.Chunk) { c.Sets[2][0] = 2 },
		"a set less":     func(c *api.Chunk) { c.Sets = c.Sets[:2] },
		"a set more":     func(c *api.Chunk) { c.Sets = append(c.Sets, []int{8}) },
		"an empty more":  func(c *api.Chunk) { c.Sets = append(c.Sets, nil) },
		"no sets":        func(c *api.Chunk) { c.Sets = nil },
		"a longer set":   func(c *api.Chunk) { c.Sets[1] = []int{0} },
		"a shorter set":  func(c *api.Chunk) { c.Sets[0] = c.Sets[0][:1] },
		"sets turned":    func(c *api.Chunk) { c.Sets[0], c.Sets[2] = c.Sets[2], c.Sets[0] },
		"a set turned":   func(c *api.Chunk) { slices.Reverse(c.Sets[0]) },
		"classes turned": func(c *api.Chunk) { slices.Reverse(c.Class[:2]) },
		"starts turned":  func(c *api.Chunk) { slices.Reverse(c.Starts) },
	} {
		other := pieces()
		write(&other)
		wantSame(name, pieces(), other, false)
		wantSame(name, other, other, true)
	}
}

// R6: a list that is nil and one that is empty are the same, also a set.
func TestNilOrEmpty(t *testing.T) {
	empty := api.Chunk{Starts: []api.Point{}, Class: []int{}, Sets: [][]int{}}
	if !chunk.Same(api.Chunk{}, empty) || !chunk.Same(empty, api.Chunk{}) || chunk.Right(empty) {
		t.Error("empty")
	}
	a, b := pieces(), pieces()
	a.Sets[1], b.Sets[1] = nil, []int{}
	if !chunk.Same(a, b) || !chunk.Same(b, a) || !chunk.Right(a) || !chunk.Right(b) {
		t.Error("sets")
	}
	wantFind(t, a, pt(0, 3, 0), 1, true)
	wantFind(t, b, pt(0, 3, 0), 1, true)
	wantFind(t, empty, api.Point{}, 0, false)
}

// R1: cuts of very many pieces, classes and sets.
func TestLongCut(t *testing.T) {
	const n = 300000
	c := api.Chunk{Starts: make([]api.Point, n), Class: make([]int, n), Sets: make([][]int, n)}
	for i := range n {
		c.Starts[i] = pt(0, uint64(i/1000), uint64(i%1000))
		c.Class[i] = n - 1 - i
		c.Sets[i] = []int{i, i + 1}
	}
	c.Sets[7] = make([]int, n)
	for i := range n {
		c.Sets[7][i] = 2 * i
	}
	if !chunk.Right(c) || !chunk.Same(c, c) {
		t.Fatal("right")
	}
	for _, i := range []int{0, 1, 999, 1000, n / 2, n - 2, n - 1} {
		wantFind(t, c, c.Starts[i], n-1-i, true)
	}
	wantFind(t, c, pt(0, 3, most), n-4000, true)
	wantFind(t, c, pt(most, most, most), 0, true)
	for _, write := range []func(c *api.Chunk){
		func(c *api.Chunk) { c.Starts = slices.Clone(c.Starts); c.Starts[n-1] = c.Starts[n-2] },
		func(c *api.Chunk) { c.Class = slices.Clone(c.Class); c.Class[n-1] = n },
		func(c *api.Chunk) { c.Sets = slices.Clone(c.Sets); c.Sets[n-1] = []int{3, 3} },
		func(c *api.Chunk) {
			c.Sets = slices.Clone(c.Sets)
			c.Sets[7] = slices.Clone(c.Sets[7])
			c.Sets[7][n-1] = 5
		},
	} {
		bad := c
		write(&bad)
		if chunk.Right(bad) || chunk.Same(bad, c) || chunk.Same(c, bad) {
			t.Error("wrong")
		}
		wantFind(t, bad, api.Point{}, 0, false)
	}
}
