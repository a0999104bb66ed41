package chunk_test

import (
	"math"
	"testing"

	"stockade/api"
	"stockade/chunk"
)

const (
	dimFrom  = 0
	dimTo    = 1
	dimSrc   = 2
	dimDst   = 3
	dimProto = 4
	dimSport = 5
	dimDport = 6

	most   = math.MaxUint64
	most32 = 1<<32 - 1
)

var all = api.Ports{Lo: 0, Hi: 65535}

func a4(lo uint64) api.Addr { return api.Addr{Fam: 4, Lo: lo} }

func a6(hi, lo uint64) api.Addr { return api.Addr{Fam: 6, Hi: hi, Lo: lo} }

func v4(lo uint64, bits int) api.Prefix { return api.Prefix{Addr: a4(lo), Bits: bits} }

func v6(hi, lo uint64, bits int) api.Prefix { return api.Prefix{Addr: a6(hi, lo), Bits: bits} }

func pt(a, b, c uint64) api.Point { return api.Point{A: a, B: b, C: c} }

// points are those of numbers.
func points(list ...uint64) []api.Point {
	var out []api.Point
	for _, n := range list {
		out = append(out, pt(0, 0, n))
	}
	return out
}

// anything is a rule that takes every key.
func anything() api.Rule {
	return api.Rule{From: -1, To: -1, Sport: all, Dport: all}
}

// numberRule is the rule that takes every key, but for a number of one dimension (of ports: for one port).
func numberRule(dim, n int) api.Rule {
	r := anything()
	switch dim {
	case dimFrom:
		r.From = n
	case dimTo:
		r.To = n
	case dimProto:
		r.Proto = n
	default:
		return portsRule(dim, n, n)
	}
	return r
}

func portsRule(dim, lo, hi int) api.Rule {
	r := anything()
	if dim == dimSport {
		r.Sport = api.Ports{Lo: lo, Hi: hi}
	} else {
		r.Dport = api.Ports{Lo: lo, Hi: hi}
	}
	return r
}

func netRule(dim int, p api.Prefix) api.Rule {
	r := anything()
	if dim == dimSrc {
		r.Src = p
	} else {
		r.Dst = p
	}
	return r
}

func numberRules(dim int, list ...int) []api.Rule {
	var rules []api.Rule
	for _, n := range list {
		rules = append(rules, numberRule(dim, n))
	}
	return rules
}

func netRules(dim int, list ...api.Prefix) []api.Rule {
	var rules []api.Rule
	for _, p := range list {
		rules = append(rules, netRule(dim, p))
	}
	return rules
}

func portsRules(dim int, list ...api.Ports) []api.Rule {
	var rules []api.Rule
	for _, p := range list {
		rules = append(rules, portsRule(dim, p.Lo, p.Hi))
	}
	return rules
}

// want is the cut that is asked for.
func want(starts []api.Point, class []int, sets ...[]int) api.Chunk {
	return api.Chunk{Starts: starts, Class: class, Sets: sets}
}

func same[E comparable](a, b []E) bool {
	if len(a) != len(b) {
		return false
	}
	for i := range a {
		if a[i] != b[i] {
			return false
		}
	}
	return true
}

// alike holds two cuts against one another without the package's own Same.
func alike(a, b api.Chunk) bool {
	if !same(a.Starts, b.Starts) || !same(a.Class, b.Class) || len(a.Sets) != len(b.Sets) {
		return false
	}
	for i := range a.Sets {
		if !same(a.Sets[i], b.Sets[i]) {
			return false
		}
	}
	return true
}

func mustCut(t testing.TB, rules []api.Rule, dim int) api.Chunk {
	t.Helper()
	c, e := chunk.Cut(rules, dim)
	if e != api.OK {
		t.Fatalf("Cut(%+v, %d): %v", rules, dim, e)
	}
	return c
}

// wantCut asks for a cut, which must be right, and the same as itself.
func wantCut(t testing.TB, rules []api.Rule, dim int, w api.Chunk) {
	t.Helper()
	c := mustCut(t, rules, dim)
	if !alike(c, w) {
		t.Errorf("Cut(%+v, %d):\n%+v, want\n%+v", rules, dim, c, w)
	}
	if !chunk.Right(c) || !chunk.Same(c, w) {
		t.Errorf("Cut(%+v, %d): right %v, same %v", rules, dim, chunk.Right(c), chunk.Same(c, w))
	}
}

// wantErr asks for an error, with no cut beside it.
func wantErr(t testing.TB, rules []api.Rule, dim int, want api.Errno) {
	t.Helper()
	c, e := chunk.Cut(rules, dim)
	if e != want || !alike(c, api.Chunk{}) {
		t.Errorf("Cut(%d rules, %d): %+v %v, want %v", len(rules), dim, c, e, want)
	}
}

// The chapter's example.
func TestExample(t *testing.T) {
	rules := portsRules(dimDport, api.Ports{Lo: 80, Hi: 80}, api.Ports{Lo: 0, Hi: 1023})
	wantCut(t, rules, dimDport, want(points(0, 80, 81, 1024), []int{0, 1, 0, 2}, []int{1}, []int{0, 1}, nil))
	// Along the others all of them are one piece, but ports end.
	for dim := dimFrom; dim <= dimProto; dim++ {
		wantCut(t, rules, dim, want(points(0), []int{0}, []int{0, 1}))
	}
	wantCut(t, rules, dimSport, want(points(0, 65536), []int{0, 1}, []int{0, 1}, nil))
}

// P11.1: a dimension is from 0 to 6.
func TestDim(t *testing.T) {
	for dim := -20; dim <= 20; dim++ {
		_, e := chunk.Cut(nil, dim)
		_, ok := chunk.Spot(middle(), dim)
		if in := 0 <= dim && dim <= 6; ok != in || (e == api.OK) != in {
			t.Errorf("%d: %v %v", dim, e, ok)
		}
	}
	for _, dim := range []int{math.MinInt, math.MinInt + 1, -1 << 32, -1, 7, 8, 1 << 32, math.MaxInt} {
		wantErr(t, nil, dim, api.ErrArg)
		wantErr(t, []api.Rule{anything()}, dim, api.ErrArg)
		wantSpot(t, middle(), dim, api.Point{}, false)
	}
}

// P11.1: at most 64 rules; the dimension is asked first, then how many, then each rule.
func TestManyRules(t *testing.T) {
	var rules []api.Rule
	for i := range 64 {
		rules = append(rules, portsRule(dimDport, 1000*i+10, 1000*i+20))
	}
	bad := api.Rule{From: -2}
	long := append(append([]api.Rule{}, rules...), anything())
	for dim := dimFrom; dim <= dimDport; dim++ {
		mustCut(t, rules, dim)
		wantErr(t, long, dim, api.ErrMany)
		wantErr(t, append(append([]api.Rule{}, rules...), bad), dim, api.ErrMany)
		wantErr(t, append([]api.Rule{bad}, rules...), dim, api.ErrMany)
		wantErr(t, make([]api.Rule, 100000), dim, api.ErrMany)
		wantErr(t, append(append([]api.Rule{}, rules[:63]...), bad), dim, api.ErrArg)
		wantErr(t, append([]api.Rule{bad}, rules[:63]...), dim, api.ErrArg)
		wantErr(t, []api.Rule{bad}, dim, api.ErrArg)
	}
	for _, dim := range []int{-1, 7} {
		wantErr(t, long, dim, api.ErrArg)
		wantErr(t, append([]api.Rule{bad}, rules...), dim, api.ErrArg)
		wantErr(t, []api.Rule{bad}, dim, api.ErrArg)
	}
	// 64 pieces apart from one another, and what lies between them.
	c := mustCut(t, rules, dimDport)
	if len(c.Starts) != 129 || len(c.Sets) != 65 || len(c.Sets[0]) != 0 || !same(c.Sets[64], []int{63}) || c.Class[127] != 64 || c.Class[128] != 0 {
		t.Errorf("%+v", c)
	}
}

// P11.1: of no rules there is one piece, with no rule in its set.
func TestNoRules(t *testing.T) {
	for dim := dimFrom; dim <= dimDport; dim++ {
		wantCut(t, nil, dim, want(points(0), []int{0}, nil))
		wantCut(t, []api.Rule{}, dim, want(points(0), []int{0}, []int{}))
	}
}

// P11.1: the pieces of zones.
func TestZones(t *testing.T) {
	for _, dim := range []int{dimFrom, dimTo} {
		wantCut(t, numberRules(dim, -1), dim, want(points(0), []int{0}, []int{0}))
		wantCut(t, numberRules(dim, 0), dim, want(points(0, 1), []int{0, 1}, []int{0}, nil))
		wantCut(t, numberRules(dim, 1), dim, want(points(0, 1, 2), []int{0, 1, 0}, nil, []int{0}))
		wantCut(t, numberRules(dim, 15), dim, want(points(0, 15, 16), []int{0, 1, 0}, nil, []int{0}))
		wantCut(t, numberRules(dim, 15, -1, 0), dim,
			want(points(0, 1, 15, 16), []int{0, 1, 2, 1}, []int{1, 2}, []int{1}, []int{0, 1}))
		wantErr(t, numberRules(dim, 16), dim, api.ErrArg)
		wantErr(t, numberRules(dim, -2), dim, api.ErrArg)
		other := dimFrom + dimTo - dim
		wantCut(t, numberRules(dim, 3, 5), other, want(points(0), []int{0}, []int{0, 1}))
	}
}

// P11.1: the pieces of protocols; 0 is any.
func TestProtos(t *testing.T) {
	wantCut(t, numberRules(dimProto, 0), dimProto, want(points(0), []int{0}, []int{0}))
	wantCut(t, numberRules(dimProto, 1), dimProto, want(points(0, 1, 2), []int{0, 1, 0}, nil, []int{0}))
	wantCut(t, numberRules(dimProto, 255), dimProto, want(points(0, 255, 256), []int{0, 1, 0}, nil, []int{0}))
	wantCut(t, numberRules(dimProto, 6, 17, 0, 255), dimProto,
		want(points(0, 6, 7, 17, 18, 255, 256), []int{0, 1, 0, 2, 0, 3, 0}, []int{2}, []int{0, 2}, []int{1, 2}, []int{2, 3}))
	wantErr(t, numberRules(dimProto, 256), dimProto, api.ErrArg)
	wantErr(t, numberRules(dimProto, -1), dimProto, api.ErrArg)
}

// P11.1: the pieces of ports; none of them is all points.
func TestPorts(t *testing.T) {
	for _, dim := range []int{dimSport, dimDport} {
		wantCut(t, portsRules(dim, all), dim, want(points(0, 65536), []int{0, 1}, []int{0}, nil))
		wantCut(t, numberRules(dim, 0), dim, want(points(0, 1), []int{0, 1}, []int{0}, nil))
		wantCut(t, numberRules(dim, 65535), dim, want(points(0, 65535, 65536), []int{0, 1, 0}, nil, []int{0}))
		wantCut(t, numberRules(dim, 80), dim, want(points(0, 80, 81), []int{0, 1, 0}, nil, []int{0}))
		wantCut(t, portsRules(dim, api.Ports{Lo: 1, Hi: 65534}), dim, want(points(0, 1, 65535), []int{0, 1, 0}, nil, []int{0}))
		wantErr(t, portsRules(dim, api.Ports{Lo: 2, Hi: 1}), dim, api.ErrArg)
		wantErr(t, portsRules(dim, api.Ports{Lo: 0, Hi: 65536}), dim, api.ErrArg)
		other := dimSport + dimDport - dim
		wantCut(t, portsRules(dim, api.Ports{Lo: 7, Hi: 9}), other, want(points(0, 65536), []int{0, 1}, []int{0}, nil))
	}
}

// P11.1: the piece of one prefix, at the edges of both families; the point behind its last one carries.
func TestNets(t *testing.T) {
	for _, c := range []struct {
		p             api.Prefix
		first, behind api.Point
	}{
		{v4(0, 0), pt(4, 0, 0), pt(4, 0, 1<<32)},
		{v4(0, 1), pt(4, 0, 0), pt(4, 0, 1<<31)},
		{v4(1<<31, 1), pt(4, 0, 1<<31), pt(4, 0, 1<<32)},
		{v4(10<<24, 8), pt(4, 0, 10<<24), pt(4, 0, 11<<24)},
		{v4(10<<24+1<<16, 16), pt(4, 0, 10<<24+1<<16), pt(4, 0, 10<<24+2<<16)},
		{v4(10<<24, 31), pt(4, 0, 10<<24), pt(4, 0, 10<<24+2)},
		{v4(0, 32), pt(4, 0, 0), pt(4, 0, 1)},
		{v4(most32, 32), pt(4, 0, most32), pt(4, 0, 1<<32)},
		{v6(0, 0, 0), pt(6, 0, 0), pt(7, 0, 0)},
		{v6(0, 0, 1), pt(6, 0, 0), pt(6, 1<<63, 0)},
		{v6(1<<63, 0, 1), pt(6, 1<<63, 0), pt(7, 0, 0)},
		{v6(0xfe80<<48, 0, 10), pt(6, 0xfe80<<48, 0), pt(6, 0xfec0<<48, 0)},
		{v6(6, 0, 63), pt(6, 6, 0), pt(6, 8, 0)},
		{v6(5, 0, 64), pt(6, 5, 0), pt(6, 6, 0)},
		{v6(most, 0, 64), pt(6, most, 0), pt(7, 0, 0)},
		{v6(5, 0, 65), pt(6, 5, 0), pt(6, 5, 1<<63)},
		{v6(5, 1<<63, 65), pt(6, 5, 1<<63), pt(6, 6, 0)},
		{v6(most, 1<<63, 65), pt(6, most, 1<<63), pt(7, 0, 0)},
		{v6(5, 8, 125), pt(6, 5, 8), pt(6, 5, 16)},
		{v6(5, 8, 127), pt(6, 5, 8), pt(6, 5, 10)},
		{v6(0, 0, 128), pt(6, 0, 0), pt(6, 0, 1)},
		{v6(5, 7, 128), pt(6, 5, 7), pt(6, 5, 8)},
		{v6(5, most, 128), pt(6, 5, most), pt(6, 6, 0)},
		{v6(most, most, 128), pt(6, most, most), pt(7, 0, 0)},
	} {
		for _, dim := range []int{dimSrc, dimDst} {
			w := want([]api.Point{{}, c.first, c.behind}, []int{0, 1, 0}, nil, []int{0})
			wantCut(t, netRules(dim, c.p), dim, w)
			wantCut(t, netRules(dim, c.p), dimSrc+dimDst-dim, want(points(0), []int{0}, []int{0}))
		}
	}
}

// P11.1: the zero prefix is all points, also those of no family; the prefixes of 0 bits are all of one family.
func TestFamilies(t *testing.T) {
	for _, dim := range []int{dimSrc, dimDst} {
		wantCut(t, netRules(dim, api.Prefix{}), dim, want(points(0), []int{0}, []int{0}))
		rules := netRules(dim, v6(0, 0, 0), api.Prefix{}, v4(0, 0), v4(10<<24, 8))
		starts := []api.Point{{}, pt(4, 0, 0), pt(4, 0, 10<<24), pt(4, 0, 11<<24), pt(4, 0, 1<<32), pt(6, 0, 0), pt(7, 0, 0)}
		wantCut(t, rules, dim, want(starts, []int{0, 1, 2, 1, 0, 3, 0}, []int{1}, []int{1, 2}, []int{1, 2, 3}, []int{0, 1}))
		// Addresses of the same bits, but of two families.
		rules = netRules(dim, v4(7, 32), v6(0, 7, 128))
		starts = []api.Point{{}, pt(4, 0, 7), pt(4, 0, 8), pt(6, 0, 7), pt(6, 0, 8)}
		wantCut(t, rules, dim, want(starts, []int{0, 1, 0, 2, 0}, nil, []int{0}, []int{1}))
		wantErr(t, netRules(dim, api.Prefix{Bits: 1}), dim, api.ErrArg)
		wantErr(t, netRules(dim, v4(1, 31)), dim, api.ErrArg)
		wantErr(t, netRules(dim, v4(0, 33)), dim, api.ErrArg)
		wantErr(t, netRules(dim, v6(0, 0, 129)), dim, api.ErrArg)
	}
}

// P11.1: points at which several pieces begin or end come once; a set comes once, in the order in which the sets first come.
func TestMeeting(t *testing.T) {
	ports := func(list ...int) []api.Ports {
		var out []api.Ports
		for i := 0; i < len(list); i += 2 {
			out = append(out, api.Ports{Lo: list[i], Hi: list[i+1]})
		}
		return out
	}
	for _, c := range []struct {
		ports []api.Ports
		w     api.Chunk
	}{
		{ports(5, 9, 5, 9), want(points(0, 5, 10), []int{0, 1, 0}, nil, []int{0, 1})},                                                                      // the same twice
		{ports(5, 9, 5, 7), want(points(0, 5, 8, 10), []int{0, 1, 2, 0}, nil, []int{0, 1}, []int{0})},                                                      // begin at one point
		{ports(5, 9, 7, 9), want(points(0, 5, 7, 10), []int{0, 1, 2, 0}, nil, []int{0}, []int{0, 1})},                                                      // end at one point
		{ports(5, 9, 10, 12), want(points(0, 5, 10, 13), []int{0, 1, 2, 0}, nil, []int{0}, []int{1})},                                                      // one begins where the other has ended
		{ports(10, 12, 5, 9), want(points(0, 5, 10, 13), []int{0, 1, 2, 0}, nil, []int{1}, []int{0})},                                                      // likewise, the later one first
		{ports(5, 9, 9, 12), want(points(0, 5, 9, 10, 13), []int{0, 1, 2, 3, 0}, nil, []int{0}, []int{0, 1}, []int{1})},                                    // one point of both
		{ports(5, 20, 8, 9, 12, 13), want(points(0, 5, 8, 10, 12, 14, 21), []int{0, 1, 2, 1, 3, 1, 0}, nil, []int{0}, []int{0, 1}, []int{0, 2})},           // one set in three pieces
		{ports(0, 3, 0, 0, 3, 3), want(points(0, 1, 3, 4), []int{0, 1, 2, 3}, []int{0, 1}, []int{0}, []int{0, 2}, nil)},                                    // at 0
		{ports(65535, 65535, 0, 65535, 65534, 65535), want(points(0, 65534, 65535, 65536), []int{0, 1, 2, 3}, []int{1}, []int{1, 2}, []int{0, 1, 2}, nil)}, // at the end
		{ports(5, 6, 20, 21, 5, 6, 20, 21), want(points(0, 5, 7, 20, 22), []int{0, 1, 0, 2, 0}, nil, []int{0, 2}, []int{1, 3})},
		{ports(0, 4, 5, 9, 0, 9), want(points(0, 5, 10), []int{0, 1, 2}, []int{0, 2}, []int{1, 2}, nil)},
	} {
		wantCut(t, portsRules(dimSport, c.ports...), dimSport, c.w)
		wantCut(t, portsRules(dimDport, c.ports...), dimDport, c.w)
	}
	// Likewise of prefixes: two halves of a family, and all of it.
	rules := netRules(dimDst, v4(0, 1), v4(1<<31, 1), v4(0, 0))
	starts := []api.Point{{}, pt(4, 0, 0), pt(4, 0, 1<<31), pt(4, 0, 1<<32)}
	wantCut(t, rules, dimDst, want(starts, []int{0, 1, 2, 0}, nil, []int{0, 2}, []int{1, 2}))
}

// P11.1: only the dimension's own part of the rules turns a cut.
func TestOtherParts(t *testing.T) {
	r := api.Rule{From: 2, To: 3, Src: v4(10<<24, 8), Dst: v6(5, 0, 64), Proto: 17, Sport: api.Ports{Lo: 4, Hi: 6}, Dport: api.Ports{Lo: 8, Hi: 9}, Action: api.Allow, Help: api.SIP}
	for dim, starts := range [][]api.Point{
		points(0, 2, 3), points(0, 3, 4),
		{{}, pt(4, 0, 10<<24), pt(4, 0, 11<<24)}, {{}, pt(6, 5, 0), pt(6, 6, 0)},
		points(0, 17, 18), points(0, 4, 7), points(0, 8, 10),
	} {
		wantCut(t, []api.Rule{r}, dim, want(starts, []int{0, 1, 0}, nil, []int{0}))
	}
}
