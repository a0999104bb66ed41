package look_test

import (
	"testing"

	"stockade/api"
	"stockade/first"
	"stockade/look"
	"stockade/rfc"
)

const (
	dimFrom  = 0
	dimTo    = 1
	dimSrc   = 2
	dimDst   = 3
	dimProto = 4
	dimSport = 5
	dimDport = 6
	dims     = 7
	crosses  = 6
)

var all = api.Ports{Lo: 0, Hi: 65535}

func a4(lo uint64) api.Addr { return api.Addr{Fam: 4, Lo: lo} }

func a6(hi, lo uint64) api.Addr { return api.Addr{Fam: 6, Hi: hi, Lo: lo} }

func pt(a, b, c uint64) api.Point { return api.Point{A: a, B: b, C: c} }

// anything is a rule that takes every key.
func anything() api.Rule {
	return api.Rule{From: -1, To: -1, Sport: all, Dport: all}
}

// only is a rule that takes every key, but for one dimension: there the number n, the net 10.n.0.0/16, or the port n.
func only(dim, n int) api.Rule {
	r := anything()
	net := api.Prefix{Addr: a4(10<<24 + uint64(n)<<16), Bits: 16}
	switch dim {
	case dimFrom:
		r.From = n
	case dimTo:
		r.To = n
	case dimSrc:
		r.Src = net
	case dimDst:
		r.Dst = net
	case dimProto:
		r.Proto = n
	case dimSport:
		r.Sport = api.Ports{Lo: n, Hi: n}
	default:
		r.Dport = api.Ports{Lo: n, Hi: n}
	}
	return r
}

// middle is a key of which no part is one that only asks for with a number from 1 to 8.
func middle() api.Key {
	return api.Key{From: 10, To: 11, Src: a4(10 << 24), Dst: a4(11 << 24), Proto: api.UDP, Sport: 1000, Dport: 80}
}

func middle6() api.Key {
	k := middle()
	k.Src, k.Dst = a6(0xfe80<<48, 1), a6(5, 7)
	return k
}

// with is a key but for one dimension, in which it is as only has it; for an address n is the net's, and low the rest.
func with(k api.Key, dim, n int, low uint64) api.Key {
	a := a4(10<<24 + uint64(n)<<16 + low)
	switch dim {
	case dimFrom:
		k.From = n
	case dimTo:
		k.To = n
	case dimSrc:
		k.Src = a
	case dimDst:
		k.Dst = a
	case dimProto:
		k.Proto = n
	case dimSport:
		k.Sport = n
	default:
		k.Dport = n
	}
	return k
}

func compile(t testing.TB, rules ...api.Rule) api.Tables {
	t.Helper()
	x, e := rfc.Compile(rules, api.MaxCells)
	if e != api.OK {
		t.Fatalf("Compile(%+v): %v", rules, e)
	}
	return x
}

// wantFound asks for a number in tables, and of a holder that has them.
func wantFound(t testing.TB, x api.Tables, k api.Key, want int) {
	t.Helper()
	if n, e := look.Find(x, k); n != want || e != api.OK {
		t.Errorf("Find(%+v, %+v): %d %v, want %d", x, k, n, e, want)
	}
	h := look.New()
	if e := h.Swap(x); e != api.OK {
		t.Errorf("Swap(%+v): %v", x, e)
	}
	wantHeld(t, h, k, want)
}

func wantHeld(t testing.TB, h *look.Holder, k api.Key, want int) {
	t.Helper()
	if n, e := h.Find(k); n != want || e != api.OK {
		t.Errorf("Find(%+v): %d %v, want %d", k, n, e, want)
	}
}

// wantCheck asks whether tables may be; those that may not be answer no key, and no holder takes them.
func wantCheck(t testing.TB, name string, x api.Tables, want bool) {
	t.Helper()
	if got := look.Check(x); got != want {
		t.Errorf("%s: Check(%+v): %v", name, x, got)
	}
	err, turns := api.OK, 1
	if !want {
		err, turns = api.ErrArg, 0
	}
	for _, k := range []api.Key{middle(), middle6()} {
		if n, e := look.Find(x, k); e != err || !want && n != 0 {
			t.Errorf("%s: Find(%+v, %+v): %d %v", name, x, k, n, e)
		}
	}
	h := look.New()
	if e := h.Swap(x); e != err || h.Turns() != turns {
		t.Errorf("%s: Swap(%+v): %v, turns %d", name, x, e, h.Turns())
	}
}

// The chapter's example: of two rules the second one takes a key alone.
func TestExample(t *testing.T) {
	for dim := range dims {
		x := compile(t, only(dim, 3), anything())
		wantFound(t, x, middle(), 1)
		wantFound(t, x, middle6(), 1)
		wantFound(t, x, with(middle(), dim, 3, 0), 0)
	}
}

// P13.1: the tables of no rules.
func TestNoRules(t *testing.T) {
	for _, x := range []api.Tables{compile(t), compile(t, []api.Rule{}...)} {
		wantCheck(t, "no rules", x, true)
		wantFound(t, x, middle(), -1)
		wantFound(t, x, middle6(), -1)
		wantFound(t, x, api.Key{Src: a4(0), Dst: a4(0)}, -1)
	}
}

// P13.3: rules that differ along one dimension, with keys at, ahead of and behind what each takes, and keys that none takes.
func TestEachDimension(t *testing.T) {
	for dim := range dims {
		rules := []api.Rule{only(dim, 2), only(dim, 4), only(dim, 5), only(dim, 2), only(dim, 8)}
		x := compile(t, rules...)
		y := compile(t, append(rules, anything())...)
		wantCheck(t, "one dimension", x, true)
		for n, want := range []int{-1, -1, 0, -1, 1, 2, -1, -1, 4, -1} {
			for _, low := range []uint64{0, 1, 65535} {
				k := with(middle(), dim, n, low)
				wantFound(t, x, k, want)
				if want >= 0 {
					wantFound(t, y, k, want)
				} else {
					wantFound(t, y, k, len(rules))
				}
			}
		}
		wantFound(t, x, middle(), -1)
		wantFound(t, x, middle6(), -1)
		wantFound(t, y, middle6(), 5)
	}
}

// P13.3: one rule a dimension: the first one that takes a key counts, along whichever dimension.
func TestAllDimensions(t *testing.T) {
	var rules []api.Rule
	for dim := range dims {
		rules = append(rules, only(dim, 3))
	}
	x := compile(t, rules...)
	wantCheck(t, "all dimensions", x, true)
	for some := range 1 << dims {
		k, want := middle(), -1
		for dim := dims - 1; dim >= 0; dim-- {
			if some>>dim&1 == 1 {
				k, want = with(k, dim, 3, 7), dim
			}
		}
		wantFound(t, x, k, want)
	}
}

// P13.3: ranges that lie in one another, and both families, at their edges.
func TestEdgesOfRules(t *testing.T) {
	at := func(write func(r *api.Rule)) api.Rule {
		r := anything()
		write(&r)
		return r
	}
	rules := []api.Rule{
		at(func(r *api.Rule) { r.Dport = api.Ports{Lo: 80, Hi: 80}; r.Proto = 255 }),
		at(func(r *api.Rule) { r.Dport = api.Ports{Lo: 0, Hi: 1023}; r.From = 15 }),
		at(func(r *api.Rule) { r.Src = api.Prefix{Addr: a6(0xfe80<<48, 0), Bits: 10}; r.To = 0 }),
		at(func(r *api.Rule) { r.Dst = api.Prefix{Addr: a4(0), Bits: 0}; r.Sport = api.Ports{Lo: 65535, Hi: 65535} }),
		at(func(r *api.Rule) { r.Dst = api.Prefix{Addr: a6(0, 0), Bits: 0}; r.Sport = api.Ports{Lo: 0, Hi: 0} }),
	}
	x := compile(t, rules...)
	addrs := []api.Addr{a4(0), a4(1<<32 - 1), a6(0, 0), a6(0xfe80<<48-1, 1<<64-1), a6(0xfe80<<48, 0), a6(0xfebf<<48+1<<48-1, 1<<64-1), a6(0xfec0<<48, 0), a6(1<<64-1, 1<<64-1)}
	seen := map[int]int{}
	for _, src := range addrs {
		for _, dst := range addrs {
			for _, port := range []int{0, 79, 80, 81, 1023, 1024, 65535} {
				for i, zone := range []int{0, 14, 15} {
					k := api.Key{From: zone, To: 15 - zone, Src: src, Dst: dst, Proto: 254 + i&1, Sport: 65535 - port, Dport: port}
					if src.Fam != dst.Fam {
						continue
					}
					want, _ := first.Find(rules, k)
					seen[want]++
					if n, e := look.Find(x, k); n != want || e != api.OK {
						t.Fatalf("Find(%+v): %d %v, want %d", k, n, e, want)
					}
				}
			}
		}
	}
	if len(seen) != len(rules)+1 {
		t.Error("too few to tell:", seen)
	}
}
