package tuple_test

import (
	"fmt"
	"math"
	"math/big"
	"math/rand"
	"net/netip"
	"testing"

	"stockade/api"
	"stockade/tuple"
)

type chance struct{ *rand.Rand }

func (c chance) of(n ...int) int { return n[c.Intn(len(n))] }

func (c chance) word(n ...uint64) uint64 {
	if c.Intn(4) == 0 {
		return c.Uint64()
	}
	return n[c.Intn(len(n))]
}

// address is mostly one that may be, of the family fam.
func (c chance) address(fam int) api.Addr {
	if c.Intn(12) == 0 {
		return api.Addr{Fam: c.of(-4, 0, 4, 5, 6), Hi: c.word(0, 1, 0xff<<56), Lo: c.word(0, 1, 1<<32, 224<<24)}
	}
	if fam == 4 {
		return api.Addr{Fam: 4, Lo: uint64(uint32(c.word(0, 1, 127<<24, 224<<24, 1<<32-1, 10<<24|1, 10<<24|2)))}
	}
	return api.Addr{Fam: fam, Hi: c.word(0, 0, 1, 0xff<<56, 0x20010db8<<32), Lo: c.word(0, 1, 2, most)}
}

func (c chance) port() int {
	if c.Intn(16) == 0 {
		return c.of(-1, 65536, math.MinInt, math.MaxInt)
	}
	return c.of(0, 1, 53, 80, 65535, c.Intn(65536))
}

func (c chance) way() api.Tuple {
	fam := c.of(4, 6)
	w := api.Tuple{Fam: fam, Proto: c.of(1, 6, 17, 58), Src: c.address(fam), Dst: c.address(fam), Sport: c.port(), Dport: c.port()}
	if c.Intn(12) == 0 {
		w.Fam = c.of(0, 4, 5, 6)
	}
	if c.Intn(12) == 0 {
		w.Proto = c.of(-1, 0, 2, 5, 7, 256)
	}
	return w
}

// near is a way that is unlike w in at most one part.
func (c chance) near(w api.Tuple) api.Tuple {
	switch x := c.way(); c.Intn(7) {
	case 0:
		w.Fam = x.Fam
	case 1:
		w.Proto = x.Proto
	case 2:
		w.Src = x.Src
	case 3:
		w.Dst = x.Dst
	case 4:
		w.Sport = x.Sport
	case 5:
		w.Dport = x.Dport
	}
	return w
}

// plainAddr is the library's own address; none, if it may not be.
func plainAddr(a api.Addr) (netip.Addr, bool) {
	var b [16]byte
	for i := range 8 {
		b[i], b[8+i] = byte(a.Hi>>(56-8*i)), byte(a.Lo>>(56-8*i))
	}
	switch {
	case a.Fam == 6:
		return netip.AddrFrom16(b), true
	case a.Fam == 4 && a.Hi == 0 && a.Lo < 1<<32:
		return netip.AddrFrom4([4]byte(b[12:])), true
	}
	return netip.Addr{}, false
}

// plainGroups is an address's text; the library writes some of family 6 with a part of family 4, which the document does not.
func plainGroups(a api.Addr) string {
	x, _ := plainAddr(a)
	if x.Is4In6() {
		return fmt.Sprintf("::ffff:%x:%x", a.Lo>>16&0xffff, a.Lo&0xffff)
	}
	return x.String()
}

func plainRight(w api.Tuple) bool {
	_, src := plainAddr(w.Src)
	_, dst := plainAddr(w.Dst)
	if w.Fam != 4 && w.Fam != 6 || !src || !dst || w.Src.Fam != w.Fam || w.Dst.Fam != w.Fam {
		return false
	}
	if w.Proto != 6 && w.Proto != 17 && w.Proto != map[int]int{4: 1, 6: 58}[w.Fam] {
		return false
	}
	return w.Sport >= 0 && w.Sport < 1<<16 && w.Dport >= 0 && w.Dport < 1<<16
}

func plainText(w api.Tuple) string {
	if !plainRight(w) {
		return ""
	}
	name := map[int]string{1: "icmp", 6: "tcp", 17: "udp", 58: "icmp6"}[w.Proto]
	form := "%s %s:%d > %s:%d"
	if w.Fam == 6 {
		form = "%s [%s]:%d > [%s]:%d"
	}
	return fmt.Sprintf(form, name, plainGroups(w.Src), w.Sport, plainGroups(w.Dst), w.Dport)
}

// plainOrder holds the parts against one another as one row of numbers.
func plainOrder(a, b api.Tuple) int {
	row := func(w api.Tuple) []*big.Int {
		s, u := func(n int) *big.Int { return big.NewInt(int64(n)) }, func(n uint64) *big.Int { return new(big.Int).SetUint64(n) }
		return []*big.Int{s(w.Fam), s(w.Proto), s(w.Src.Fam), u(w.Src.Hi), u(w.Src.Lo), s(w.Dst.Fam), u(w.Dst.Hi), u(w.Dst.Lo), s(w.Sport), s(w.Dport)}
	}
	x, y := row(a), row(b)
	for i := range x {
		if o := x[i].Cmp(y[i]); o != 0 {
			return o
		}
	}
	return 0
}

func plainHas(a api.Addr, prefixes ...string) bool {
	x, ok := plainAddr(a)
	for _, p := range prefixes {
		if ok && netip.MustParsePrefix(p).Contains(x) {
			return true
		}
	}
	return false
}

// P14.1 to P14.4: every answer is the plain one.
func TestAsPlain(t *testing.T) {
	c := chance{rand.New(rand.NewSource(14))}
	right, alike, many, local := 0, 0, 0, 0
	for range 40000 {
		a := c.way()
		b := c.near(a)
		wantRight(t, "a way", a, plainRight(a))
		if got, want := tuple.Text(a), plainText(a); got != want {
			t.Fatalf("Text(%+v): %q, want %q", a, got, want)
		}
		wantOrder(t, a, b, plainOrder(a, b))
		wantKinds(t, a.Src, plainHas(a.Src, "224.0.0.0/4", "ff00::/8", "255.255.255.255/32"), plainHas(a.Src, "127.0.0.0/8", "0.0.0.0/8", "::1/128", "::/128"))
		right += count(tuple.Right(a))
		alike += count(tuple.Order(a, b) == 0)
		many += count(tuple.Multicast(a.Src))
		local += count(tuple.Local(a.Src))
		if t.Failed() {
			return
		}
	}
	if right < 5000 || right > 35000 || alike < 5000 || alike > 35000 || many < 3000 || local < 3000 {
		t.Error("too few to tell:", right, alike, many, local)
	}
}

func count(b bool) int {
	if b {
		return 1
	}
	return 0
}

// P14.5: the reverse of the reverse is the way, of every one; the reverse may be just if the way may be.
func TestReverseTwice(t *testing.T) {
	c := chance{rand.New(rand.NewSource(15))}
	moved := 0
	for range 20000 {
		w := c.way()
		back := tuple.Reverse(w)
		want := api.Tuple{Fam: w.Fam, Proto: w.Proto, Src: w.Dst, Dst: w.Src, Sport: w.Dport, Dport: w.Sport}
		if back != want || tuple.Reverse(back) != w || tuple.Right(back) != tuple.Right(w) {
			t.Fatalf("Reverse(%+v): %+v", w, back)
		}
		moved += count(back != w)
	}
	if moved < 10000 {
		t.Error("too few to tell:", moved)
	}
}

// P14.6: the order turns round and goes on; ways of order 0 are the same, also such as may not be.
func TestOrderIsOneOrder(t *testing.T) {
	c := chance{rand.New(rand.NewSource(16))}
	var some []api.Tuple
	for range 12 {
		w := c.way()
		some = append(some, w, tuple.Reverse(w), c.near(w), c.near(w), c.near(w))
	}
	zero, chained := 0, 0
	for _, a := range some {
		for _, b := range some {
			ab := tuple.Order(a, b)
			if ab != -tuple.Order(b, a) || ab < -1 || ab > 1 || (ab == 0) != (a == b) {
				t.Fatalf("Order(%+v, %+v): %d", a, b, ab)
			}
			zero += count(ab == 0)
			for _, d := range some {
				if ab <= 0 && tuple.Order(b, d) <= 0 {
					chained++
					if tuple.Order(a, d) > 0 {
						t.Fatalf("the order does not go on: %+v, %+v, %+v", a, b, d)
					}
				}
			}
		}
	}
	if zero <= len(some) || zero > len(some)*len(some)/2 || chained < 10000 {
		t.Error("too few to tell:", zero, chained)
	}
}

// P14.7: unlike ways that may be have unlike texts.
func TestTextsApart(t *testing.T) {
	c := chance{rand.New(rand.NewSource(17))}
	whose := map[string]api.Tuple{}
	again := 0
	put := func(w api.Tuple) {
		if !tuple.Right(w) {
			return
		}
		s := tuple.Text(w)
		if old, there := whose[s]; there && old != w {
			t.Fatalf("%+v and %+v have the text %q", w, old, s)
		} else if there {
			again++
		}
		whose[s] = w
	}
	for range 20000 {
		w := c.way()
		put(w)
		put(c.near(w))
		put(tuple.Reverse(w))
	}
	if len(whose) < 10000 || again < 1000 {
		t.Error("too few to tell:", len(whose), again)
	}
}

// P14.7: ways that are alike but for one part, each part in turn.
func TestTextsApartByOnePart(t *testing.T) {
	for _, w := range rightWays() {
		seen := map[string]bool{tuple.Text(w): true}
		for _, turn := range []func(w W){
			func(w W) { w.Proto = 23 - w.Proto }, // TCP for UDP; an ICMP's way may not be then
			func(w W) { w.Src.Lo++ },
			func(w W) { w.Dst.Lo += 256 },
			func(w W) { w.Sport++ },
			func(w W) { w.Dport++ },
			func(w W) { w.Src, w.Dst = w.Dst, w.Src },
			func(w W) { w.Sport, w.Dport = w.Dport, w.Sport },
			func(w W) { *w = tuple.Reverse(*w) },
		} {
			s := tuple.Text(turned(w, turn))
			if seen[s] {
				t.Errorf("%q twice", s)
			}
			seen[s] = true
		}
	}
}

// R3: the same call has the same answer, whatever was asked between.
func TestSameAnswers(t *testing.T) {
	for range 3 {
		for _, w := range rightWays() {
			a, b := tuple.Text(w), tuple.Reverse(w)
			tuple.Multicast(w.Src)
			tuple.KeyOf(w, 1, 2, 3, 4)
			if tuple.Text(w) != a || tuple.Reverse(w) != b {
				t.Errorf("%+v", w)
			}
		}
	}
}
