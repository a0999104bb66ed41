package first_test

import (
	"fmt"
	"math/big"
	"math/rand"
	"slices"
	"strings"
	"testing"

	"stockade/addr"
	"stockade/api"
	"stockade/first"
)

// chance picks rules and keys that are near one another, so that many take and hide.
type chance struct{ *rand.Rand }

func pick[E any](r chance, list ...E) E {
	return list[r.Intn(len(list))]
}

func (r chance) fam() int {
	return pick(r, 4, 4, 6)
}

func (r chance) address(fam int) api.Addr {
	if fam == 4 {
		return a4(pick(r, uint64(0), 10<<24, 10<<24+1<<16, 1<<32-1) + uint64(r.Intn(3))&1)
	}
	return a6(pick(r, uint64(0), 1, 0xfe80<<48), pick(r, uint64(0), 1, 2, 1<<63))
}

func (r chance) net() api.Prefix {
	if r.Intn(3) == 0 {
		return api.Prefix{}
	}
	fam := r.fam()
	bits := pick(r, 0, 1, 8, 9, 15, 16, 31, 32)
	if fam == 6 {
		bits = pick(r, 0, 1, 10, 63, 64, 65, 127, 128)
	}
	a := r.address(fam)
	if fam == 4 {
		a.Lo &= 1<<32 - 1
	}
	m, _ := addr.Mask(a, bits)
	return api.Prefix{Addr: m, Bits: bits}
}

func (r chance) ports() api.Ports {
	if r.Intn(3) > 0 {
		return all
	}
	p := []int{pick(r, 0, 1, 2, 80, 65535), pick(r, 0, 1, 2, 80, 65535)}
	slices.Sort(p)
	return api.Ports{Lo: p[0], Hi: p[1]}
}

func (r chance) rule() api.Rule {
	rule := api.Rule{From: pick(r, -1, -1, 0, 15), To: pick(r, -1, -1, 0, 15), Src: r.net(), Dst: r.net(), Proto: pick(r, 0, 0, 6, 17, 255),
		Sport: r.ports(), Dport: r.ports(), Action: r.Intn(2), Help: r.Intn(4)}
	if r.Intn(8) == 0 {
		bad := wrongRules(rule)
		return bad[r.Intn(len(bad))]
	}
	return rule
}

func (r chance) rules() []api.Rule {
	rules := make([]api.Rule, r.Intn(20))
	for i := range rules {
		rules[i] = r.rule()
	}
	return rules
}

func (r chance) key() api.Key {
	fam := r.fam()
	k := api.Key{From: pick(r, 0, 1, 15), To: pick(r, 0, 1, 15), Src: r.address(fam), Dst: r.address(fam), Proto: pick(r, 0, 6, 17, 255),
		Sport: pick(r, 0, 1, 2, 3, 80, 65535), Dport: pick(r, 0, 1, 2, 3, 80, 65535)}
	if r.Intn(20) == 0 {
		bad := wrongKeys(k)
		return bad[r.Intn(len(bad))]
	}
	return k
}

// bitsOf writes an address's bits as a text, by way of its bytes; empty, if it may not be.
func bitsOf(a api.Addr) string {
	b := addr.Bytes(a)
	if b == nil {
		return ""
	}
	return fmt.Sprintf("%d:%0*b", a.Fam, 8*len(b), new(big.Int).SetBytes(b))
}

// cut is what the texts of all addresses of a prefix begin with, and whether it may be in a rule.
func cut(p api.Prefix) (string, bool) {
	if p == (api.Prefix{}) {
		return "", true
	}
	s := bitsOf(p.Addr)
	if s == "" || p.Bits < 0 || p.Bits > len(s)-2 || strings.Contains(s[2+p.Bits:], "1") {
		return "", false
	}
	return s[:2+p.Bits], true
}

// row writes a rule's parts as ranges of numbers (From, To, Proto, Sport, Dport).
func row(r api.Rule) [5][2]int {
	span := func(n, none, hi int) [2]int {
		if n == none {
			return [2]int{0, hi}
		}
		return [2]int{n, n}
	}
	return [5][2]int{span(r.From, -1, 15), span(r.To, -1, 15), span(r.Proto, 0, 255), {r.Sport.Lo, r.Sport.Hi}, {r.Dport.Lo, r.Dport.Hi}}
}

// plainRight is a reading of which rules may be by ranges.
func plainRight(r api.Rule) bool {
	_, src := cut(r.Src)
	_, dst := cut(r.Dst)
	ok := src && dst && (r.Action == 0 || r.Action == 1) && r.Help >= 0 && r.Help <= 3
	for i, s := range row(r) {
		ok = ok && s[0] >= 0 && s[0] <= s[1] && s[1] <= []int{15, 15, 255, 65535, 65535}[i]
	}
	return ok
}

func plainRightKey(k api.Key) bool {
	src, dst := bitsOf(k.Src), bitsOf(k.Dst)
	ok := src != "" && len(src) == len(dst)
	for i, n := range []int{k.From, k.To, k.Proto, k.Sport, k.Dport} {
		ok = ok && n >= 0 && n <= []int{15, 15, 255, 65535, 65535}[i]
	}
	return ok
}

func plainTakes(r api.Rule, k api.Key) bool {
	if !plainRight(r) || !plainRightKey(k) {
		return false
	}
	src, _ := cut(r.Src)
	dst, _ := cut(r.Dst)
	ok := strings.HasPrefix(bitsOf(k.Src), src) && strings.HasPrefix(bitsOf(k.Dst), dst)
	for i, n := range []int{k.From, k.To, k.Proto, k.Sport, k.Dport} {
		s := row(r)[i]
		ok = ok && s[0] <= n && n <= s[1]
	}
	return ok
}

// plainHides is for rules that may be: of those, as wide in each part is to reach as far.
func plainHides(ahead, behind api.Rule) bool {
	reach := func(a, b api.Prefix) bool {
		x, _ := cut(a)
		y, _ := cut(b)
		return strings.HasPrefix(y, x)
	}
	ok := reach(ahead.Src, behind.Src) && reach(ahead.Dst, behind.Dst)
	for i, s := range row(ahead) {
		o := row(behind)[i]
		ok = ok && s[0] <= o[0] && s[1] >= o[1]
	}
	return ok
}

// P10.1, P10.2: any rules and keys against a plain reading of the chapter.
func TestAnyFind(t *testing.T) {
	r := chance{rand.New(rand.NewSource(10))}
	found, none := 0, 0
	for range 3000 {
		rules, k := r.rules(), r.key()
		wantKey(t, k, plainRightKey(k))
		want := -1
		for i, rule := range rules {
			takes := plainTakes(rule, k)
			wantRule(t, rule, plainRight(rule))
			wantTakes(t, rule, k, takes)
			if takes && want < 0 {
				want = i
			}
		}
		wantFind(t, rules, k, want)
		if want < 0 {
			none++
		} else {
			found++
		}
	}
	if found < 500 || none < 500 {
		t.Error(found, none)
	}
}

// P10.3: rules that may be against a plain reading; each is asked for with all that stand ahead of it, hidden or not.
func TestAnyKeep(t *testing.T) {
	r := chance{rand.New(rand.NewSource(11))}
	kept, hidden := 0, 0
	for range 3000 {
		rules := slices.DeleteFunc(r.rules(), func(x api.Rule) bool { return !plainRight(x) })
		var want []int
		for i := range rules {
			if !slices.ContainsFunc(rules[:i], func(x api.Rule) bool { return plainHides(x, rules[i]) }) {
				want = append(want, i)
			}
		}
		wantKeep(t, rules, want...)
		kept, hidden = kept+len(want), hidden+len(rules)-len(want)
	}
	if kept < 1000 || hidden < 1000 {
		t.Error(kept, hidden)
	}
}

// P10.3: whether one rule hides another hangs on the two alone, also among rules that may not be.
func TestKeepByPairs(t *testing.T) {
	r := chance{rand.New(rand.NewSource(12))}
	for range 1500 {
		rules := r.rules()
		var want []int
		for i := range rules {
			hidden := false
			for j := range i {
				hidden = hidden || len(first.Keep([]api.Rule{rules[j], rules[i]})) == 1
			}
			if !hidden {
				want = append(want, i)
			}
		}
		wantKeep(t, rules, want...)
	}
}

// P10.4: without the hidden rules each key is taken by the same rule.
func TestWithoutHidden(t *testing.T) {
	r := chance{rand.New(rand.NewSource(13))}
	for range 1000 {
		rules := r.rules()
		places := first.Keep(rules)
		var kept []api.Rule
		for _, p := range places {
			kept = append(kept, rules[p])
		}
		for range 20 {
			k := r.key()
			n, ok := first.Find(rules, k)
			m, also := first.Find(kept, k)
			if ok != also || ok && places[m] != n {
				t.Fatalf("%+v by %d %v of %+v, by %d %v of %v", k, n, ok, rules, m, also, places)
			}
		}
	}
}

// P10.5: a rule behind all others turns the answer of those keys that none took, and that it takes, alone.
func TestRuleBehind(t *testing.T) {
	r := chance{rand.New(rand.NewSource(14))}
	turned := 0
	for range 2000 {
		rules, last := r.rules(), r.rule()
		longer := append(slices.Clone(rules), last)
		for range 20 {
			k := r.key()
			n, ok := first.Find(rules, k)
			if !ok && first.Takes(last, k) {
				n = len(rules)
				turned++
			}
			wantFind(t, longer, k, n)
		}
	}
	if turned < 500 {
		t.Error(turned)
	}
}
