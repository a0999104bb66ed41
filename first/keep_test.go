package first_test

import (
	"math"
	"slices"
	"testing"

	"stockade/api"
	"stockade/first"
)

func wantKeep(t testing.TB, rules []api.Rule, want ...int) {
	t.Helper()
	if got := first.Keep(rules); !slices.Equal(got, want) {
		t.Errorf("Keep(%+v): %v, want %v", rules[:min(len(rules), 5)], got, want)
	}
}

// hides asks whether one rule behind another one is hidden.
func hides(t testing.TB, ahead, behind api.Rule, want bool) {
	t.Helper()
	if want {
		wantKeep(t, []api.Rule{ahead, behind}, 0)
		return
	}
	wantKeep(t, []api.Rule{ahead, behind}, 0, 1)
}

// P10.3, R6: no rules, one, and the same again.
func TestKeepFew(t *testing.T) {
	wantKeep(t, nil)
	wantKeep(t, []api.Rule{})
	for _, r := range []api.Rule{anything(), {}, exact(middle()), exact(middle6()), {From: -2}, {Action: 2}} {
		wantKeep(t, []api.Rule{r}, 0)
	}
	for _, r := range []api.Rule{anything(), {}, exact(middle()), exact(middle6())} {
		wantKeep(t, []api.Rule{r, r}, 0)
		wantKeep(t, []api.Rule{r, r, r, r}, 0)
	}
	wantKeep(t, []api.Rule{exact(middle()), exact(middle6()), exact(middle()), exact(middle6())}, 0, 1)
}

// P10.3: a rule behind a wider one is hidden, also if others stand between; ahead of it it is not.
func TestKeepOrder(t *testing.T) {
	one, other := exact(middle()), exact(middle6())
	wantKeep(t, []api.Rule{anything(), one, other}, 0)
	wantKeep(t, []api.Rule{one, anything(), other}, 0, 1)
	wantKeep(t, []api.Rule{one, other, anything()}, 0, 1, 2)
	wantKeep(t, []api.Rule{one, other, one}, 0, 1)
	wantKeep(t, []api.Rule{other, one, anything(), one, other, anything()}, 0, 1, 2)
}

// P10.3: what a rule does turns nothing, whom it has for help neither.
func TestKeepWhateverItDoes(t *testing.T) {
	for _, action := range []int{api.Deny, api.Allow} {
		for help := range 4 {
			r := ruleWith(func(r *api.Rule) { r.Action, r.Help = action, help })
			hides(t, r, anything(), true)
			hides(t, anything(), r, true)
			hides(t, r, exact(middle()), true)
		}
	}
}

// P10.3: zones: -1 is as wide as each, each other one as wide as itself.
func TestKeepZones(t *testing.T) {
	for of := -2; of <= 16; of++ {
		for n := -2; n <= 16; n++ {
			want := of >= -1 && of <= 15 && (of == -1 || of == n)
			hides(t, ruleWith(func(r *api.Rule) { r.From = of }), ruleWith(func(r *api.Rule) { r.From = n }), want)
			hides(t, ruleWith(func(r *api.Rule) { r.To = of }), ruleWith(func(r *api.Rule) { r.To = n }), want)
		}
	}
}

// P10.3: protocols: 0 is as wide as each.
func TestKeepProto(t *testing.T) {
	for of := -1; of <= 256; of++ {
		for _, n := range []int{-1, 0, 1, 6, 17, 58, 254, 255, 256, of - 1, of, of + 1} {
			want := of >= 0 && of <= 255 && (of == 0 || of == n)
			hides(t, ruleWith(func(r *api.Rule) { r.Proto = of }), ruleWith(func(r *api.Rule) { r.Proto = n }), want)
		}
	}
}

// P10.3: prefixes, of both sides.
func TestKeepNets(t *testing.T) {
	for _, c := range []struct {
		ahead, behind api.Prefix
		want          bool
	}{
		{api.Prefix{}, api.Prefix{}, true}, {api.Prefix{}, v4(0, 0), true}, {api.Prefix{}, v6(0, 0, 0), true}, {api.Prefix{}, v4(7, 32), true}, {api.Prefix{}, v6(7, 7, 128), true},
		{v4(0, 0), api.Prefix{}, false}, {v6(0, 0, 0), api.Prefix{}, false}, {v4(0, 32), api.Prefix{}, false}, {v6(0, 0, 128), api.Prefix{}, false},
		{v4(0, 0), v4(0, 0), true}, {v4(0, 0), v4(0, 1), true}, {v4(0, 0), v4(1<<31, 1), true}, {v4(0, 0), v4(0, 32), true}, {v4(0, 0), v4(1<<32-1, 32), true},
		{v4(0, 1), v4(0, 0), false}, {v4(0, 32), v4(0, 0), false}, {v4(0, 32), v4(0, 31), false}, {v4(0, 31), v4(0, 32), true},
		{v4(0, 0), v6(0, 0, 0), false}, {v4(0, 0), v6(0, 0, 128), false}, {v6(0, 0, 0), v4(0, 0), false}, {v6(0, 0, 0), v4(7, 32), false},
		{v6(0, 0, 0), v6(0, 0, 0), true}, {v6(0, 0, 0), v6(0, 0, 128), true}, {v6(0, 0, 0), v6(math.MaxUint64, math.MaxUint64, 128), true},
		{v6(0, 0, 128), v6(0, 0, 0), false}, {v6(0, 0, 128), v6(0, 0, 127), false}, {v6(0, 0, 128), v6(0, 0, 128), true}, {v6(0, 0, 127), v6(0, 1, 128), true},
		{v4(10<<24, 8), v4(10<<24+1<<16, 16), true}, {v4(10<<24+1<<16, 16), v4(10<<24, 8), false}, {v4(10<<24, 8), v4(11<<24, 8), false}, {v4(10<<24, 8), v4(11<<24, 16), false},
		{v4(10<<24, 8), v4(10<<24, 8), true}, {v4(10<<24, 8), v4(10<<24, 7), false}, {v4(10<<24, 8), v4(10<<24, 9), true},
		{v6(1, 0, 64), v6(1, 1<<63, 65), true}, {v6(1, 1<<63, 65), v6(1, 0, 64), false}, {v6(1, 0, 64), v6(2, 0, 65), false}, {v6(1, 0, 64), v6(1, 5, 128), true},
	} {
		hides(t, ruleWith(func(r *api.Rule) { r.Src = c.ahead }), ruleWith(func(r *api.Rule) { r.Src = c.behind }), c.want)
		hides(t, ruleWith(func(r *api.Rule) { r.Dst = c.ahead }), ruleWith(func(r *api.Rule) { r.Dst = c.behind }), c.want)
		hides(t, ruleWith(func(r *api.Rule) { r.Src, r.Dst = c.ahead, c.ahead }), ruleWith(func(r *api.Rule) { r.Src, r.Dst = c.behind, c.behind }), c.want)
		hides(t, ruleWith(func(r *api.Rule) { r.Src = c.ahead }), ruleWith(func(r *api.Rule) { r.Dst = c.behind }), c.ahead == api.Prefix{})
	}
}

// P10.3: a prefix that may not be is hidden by the zero prefix alone, and hides none, not even the same.
func TestKeepWrongNets(t *testing.T) {
	for p, ok := range nets() {
		if ok {
			continue
		}
		for _, behind := range []bool{false, true} {
			put := func(r *api.Rule, p api.Prefix) {
				if behind {
					r.Dst = p
				} else {
					r.Src = p
				}
			}
			bad := ruleWith(func(r *api.Rule) { put(r, p) })
			hides(t, anything(), bad, true)
			hides(t, bad, bad, false)
			hides(t, bad, anything(), false)
			for _, q := range []api.Prefix{v4(0, 0), v6(0, 0, 0), v4(10<<24, 8), v4(0, 32), v6(0, 0, 128), v6(1, 0, 64)} {
				good := ruleWith(func(r *api.Rule) { put(r, q) })
				hides(t, good, bad, false)
				hides(t, bad, good, false)
			}
		}
	}
}

// P10.3: ports reach as far on both sides, also those of a rule that may not be.
func TestKeepPorts(t *testing.T) {
	ends := []int{-1, 0, 1, 79, 80, 81, 65534, 65535, 65536}
	for _, lo := range ends {
		for _, hi := range ends {
			of := api.Ports{Lo: lo, Hi: hi}
			right := lo >= 0 && lo <= hi && hi <= 65535
			for _, low := range ends {
				for _, high := range ends {
					want := right && lo <= low && hi >= high
					hides(t, ruleWith(func(r *api.Rule) { r.Sport = of }), ruleWith(func(r *api.Rule) { r.Sport = api.Ports{Lo: low, Hi: high} }), want)
					hides(t, ruleWith(func(r *api.Rule) { r.Dport = of }), ruleWith(func(r *api.Rule) { r.Dport = api.Ports{Lo: low, Hi: high} }), want)
				}
			}
		}
	}
}

// narrowings are what makes a rule narrower in one part.
func narrowings() []func(r *api.Rule) {
	one := exact(middle())
	return []func(r *api.Rule){
		func(r *api.Rule) { r.From = one.From },
		func(r *api.Rule) { r.To = one.To },
		func(r *api.Rule) { r.Src = one.Src },
		func(r *api.Rule) { r.Dst = one.Dst },
		func(r *api.Rule) { r.Proto = one.Proto },
		func(r *api.Rule) { r.Sport = one.Sport },
		func(r *api.Rule) { r.Dport = one.Dport },
	}
}

// P10.3: a rule that is narrower in some parts is hidden by those that are narrower in no other.
func TestKeepParts(t *testing.T) {
	narrow := func(set int) api.Rule {
		r := anything()
		for i, write := range narrowings() {
			if set>>i&1 == 1 {
				write(&r)
			}
		}
		return r
	}
	for a := range 1 << 7 {
		for b := range 1 << 7 {
			hides(t, narrow(a), narrow(b), a&^b == 0)
		}
	}
}

// P10.3: a rule that only shares a part with a wider one is kept.
func TestKeepShared(t *testing.T) {
	ahead := ruleWith(func(r *api.Rule) { r.Dport = api.Ports{Lo: 10, Hi: 20} })
	hides(t, ahead, ruleWith(func(r *api.Rule) { r.Dport, r.From = api.Ports{Lo: 15, Hi: 25}, 3 }), false)
	hides(t, ahead, ruleWith(func(r *api.Rule) { r.Dport, r.From = api.Ports{Lo: 5, Hi: 15}, 3 }), false)
	hides(t, ahead, ruleWith(func(r *api.Rule) { r.Dport, r.From = api.Ports{Lo: 9, Hi: 21}, 3 }), false)
	hides(t, ahead, ruleWith(func(r *api.Rule) { r.Dport, r.From = api.Ports{Lo: 10, Hi: 20}, 3 }), true)
	low, high := api.Ports{Lo: 0, Hi: 40000}, api.Ports{Lo: 30000, Hi: 65535}
	half := ruleWith(func(r *api.Rule) { r.Sport = low })
	rest := ruleWith(func(r *api.Rule) { r.Sport = high })
	// The two have all of it between them, but neither has it alone.
	wantKeep(t, []api.Rule{half, rest, anything()}, 0, 1, 2)
}

// P10.3: a rule that may not be hides none, and may be hidden.
func TestKeepWrong(t *testing.T) {
	for _, bad := range wrongRules(anything()) {
		hides(t, bad, exact(middle()), false)
		hides(t, bad, bad, false)
		wantKeep(t, []api.Rule{bad, anything(), exact(middle())}, 0, 1)
	}
	bad := ruleWith(func(r *api.Rule) { r.Help = 4 })
	hides(t, anything(), bad, true)
	hides(t, ruleWith(func(r *api.Rule) { r.From = 3 }), bad, false)
	wantKeep(t, []api.Rule{bad, bad, anything(), bad}, 0, 1, 2)
	bad.From = -7
	hides(t, anything(), bad, true)
	hides(t, ruleWith(func(r *api.Rule) { r.From = 3 }), bad, false)
}

// R1: long lists, of rules that are all hidden, and of such as none hides.
func TestKeepLong(t *testing.T) {
	same := make([]api.Rule, 300000)
	for i := range same {
		same[i] = anything()
	}
	wantKeep(t, same, 0)
	k := middle()
	for i := range same {
		same[i].From = 4
	}
	wantFind(t, same, k, -1)
	same[len(same)-1] = anything()
	wantFind(t, same, k, len(same)-1)
	wantKeep(t, same, 0, len(same)-1)
	for i := range same {
		same[i].Action = 2
	}
	wantFind(t, same, k, -1)
	if got := first.Keep(same); len(got) != len(same) {
		t.Error(len(got))
	}
	var apart []api.Rule
	var want []int
	for i := range 3000 {
		apart = append(apart, ruleWith(func(r *api.Rule) { r.Src = v4(uint64(i), 32) }))
		want = append(want, i)
	}
	wantKeep(t, apart, want...)
}
