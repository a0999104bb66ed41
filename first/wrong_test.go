package first_test

import (
	"slices"
	"testing"

	"stockade/api"
	"stockade/first"
)

// wrongRules are rules that differ from the one handed in in one field, and may not be.
func wrongRules(r api.Rule) []api.Rule {
	var list []api.Rule
	add := func(write func(r *api.Rule)) {
		bad := r
		write(&bad)
		list = append(list, bad)
	}
	for _, n := range odd {
		add(func(r *api.Rule) { r.From = n })
		add(func(r *api.Rule) { r.To = n })
		add(func(r *api.Rule) { r.Proto = n })
		add(func(r *api.Rule) { r.Action = n })
		add(func(r *api.Rule) { r.Help = n })
		add(func(r *api.Rule) { r.Sport.Lo = n })
		add(func(r *api.Rule) { r.Sport.Hi = n })
		add(func(r *api.Rule) { r.Dport.Lo = n })
		add(func(r *api.Rule) { r.Dport.Hi = n })
		add(func(r *api.Rule) { r.Src.Bits = n })
		add(func(r *api.Rule) { r.Dst.Bits = n })
		add(func(r *api.Rule) { r.Src.Addr.Fam = n })
		add(func(r *api.Rule) { r.Dst.Addr.Fam = n })
	}
	add(func(r *api.Rule) { r.From = 16 })
	add(func(r *api.Rule) { r.To = 16 })
	add(func(r *api.Rule) { r.Proto = 256 })
	add(func(r *api.Rule) { r.Proto = -1 })
	add(func(r *api.Rule) { r.Action = 2 })
	add(func(r *api.Rule) { r.Action = -1 })
	add(func(r *api.Rule) { r.Help = 4 })
	add(func(r *api.Rule) { r.Help = -1 })
	add(func(r *api.Rule) { r.Sport = api.Ports{Lo: 2, Hi: 1} })
	add(func(r *api.Rule) { r.Dport = api.Ports{Lo: 2, Hi: 1} })
	return list
}

// wrongKeys are keys that differ from the one handed in in one field, and may not be.
func wrongKeys(k api.Key) []api.Key {
	var list []api.Key
	add := func(write func(k *api.Key)) {
		bad := k
		write(&bad)
		list = append(list, bad)
	}
	for _, n := range append([]int{-1}, odd...) {
		add(func(k *api.Key) { k.From = n })
		add(func(k *api.Key) { k.To = n })
		add(func(k *api.Key) { k.Proto = n })
		add(func(k *api.Key) { k.Sport = n })
		add(func(k *api.Key) { k.Dport = n })
		add(func(k *api.Key) { k.Src.Fam = n })
		add(func(k *api.Key) { k.Dst.Fam = n })
	}
	add(func(k *api.Key) { k.From = 16 })
	add(func(k *api.Key) { k.To = 16 })
	add(func(k *api.Key) { k.Proto = 256 })
	add(func(k *api.Key) { k.Src.Fam = 0 })
	add(func(k *api.Key) { k.Dst.Fam = 10 - k.Src.Fam })
	add(func(k *api.Key) { k.Src = api.Addr{} })
	add(func(k *api.Key) { k.Dst = api.Addr{} })
	add(func(k *api.Key) { k.Src = api.Addr{Fam: 4, Hi: 1} })
	add(func(k *api.Key) { k.Dst = api.Addr{Fam: 4, Lo: 1 << 32} })
	return list
}

// P10.1, P10.2: a rule that may not be takes nothing, a key that may not be is taken by nothing.
func TestWrongInputs(t *testing.T) {
	for _, k := range []api.Key{middle(), middle6()} {
		for _, good := range []api.Rule{anything(), exact(k)} {
			for _, bad := range wrongRules(good) {
				wantRule(t, bad, false)
				wantTakes(t, bad, k, false)
				wantFind(t, []api.Rule{bad}, k, -1)
				wantFind(t, []api.Rule{bad, bad, good}, k, 2)
			}
			for _, bad := range wrongKeys(k) {
				wantKey(t, bad, false)
				wantTakes(t, good, bad, false)
				wantTakes(t, exact(bad), bad, false)
				wantFind(t, []api.Rule{good, anything(), exact(bad)}, bad, -1)
				wantFind(t, nil, bad, -1)
			}
		}
	}
}

// R1: any rule with any key, and all of them in one list.
func TestAnyWrong(t *testing.T) {
	k := middle()
	rules := slices.Concat(wrongRules(anything()), wrongRules(exact(k)), wrongRules(api.Rule{}))
	for _, bad := range slices.Concat(wrongKeys(k), wrongKeys(middle6()), wrongKeys(api.Key{})) {
		wantFind(t, rules, bad, -1)
	}
	wantFind(t, rules, k, -1)
	for i, place := range first.Keep(rules) {
		if place != i {
			t.Fatal(i, place)
		}
	}
}

// R4: the rules that are handed in are not turned, nor what lies behind their end; places that were answered may be written over.
func TestHandedIn(t *testing.T) {
	room := []api.Rule{exact(middle()), anything(), exact(middle6()), exact(middle()), {From: 77}, {To: 78}}
	before := slices.Clone(room)
	rules := room[:4]
	wantKeep(t, rules, 0, 1)
	wantFind(t, rules, middle(), 0)
	wantFind(t, rules, middle6(), 1)
	if !slices.Equal(room, before) {
		t.Error(room)
	}
	places := first.Keep(rules)
	again := first.Keep(rules)
	full := places[:cap(places)]
	for i := range full {
		full[i] = -9
	}
	if !slices.Equal(again, []int{0, 1}) || !slices.Equal(room, before) {
		t.Error(again, room)
	}
	wantKeep(t, rules, 0, 1)
}
