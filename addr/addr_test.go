package addr_test

import (
	"bytes"
	"math"
	"math/big"
	"math/rand"
	"testing"

	"stockade/addr"
	"stockade/api"
)

const most = math.MaxUint64

// edgeWords are words at which bits, groups and bytes begin or end.
var edgeWords = []uint64{0, 1, 2, 0xff, 0x100, 0xffff, 0x10000, 1<<31 - 1, 1 << 31, 1<<32 - 1, 1 << 32, 1<<32 + 1, 1<<63 - 1, 1 << 63, most - 1, most, 0x20010db800000000, 0x0001000000000002, 0x0a010203}

// edgeBits are counts of bits at the edges of both families, and far from them.
var edgeBits = []int{math.MinInt, math.MinInt + 128, math.MinInt32, -129, -128, -97, -96, -64, -32, -1, 0, 1, 7, 8, 9, 15, 16, 17, 31, 32, 33, 63, 64, 65, 95, 96, 97, 127, 128, 129, 160, 192, 255, 256, math.MaxInt32, math.MaxInt - 128, math.MaxInt}

// edgeFams are both families, and such as there are none.
var edgeFams = []int{math.MinInt, -6, -4, -1, 0, 1, 2, 3, 4, 5, 6, 7, 10, 46, 64, math.MaxInt}

func a4(lo uint64) api.Addr      { return api.Addr{Fam: 4, Lo: lo} }
func a6(hi, lo uint64) api.Addr  { return api.Addr{Fam: 6, Hi: hi, Lo: lo} }
func four(a, b, c, d int) uint64 { return uint64(a)<<24 | uint64(b)<<16 | uint64(c)<<8 | uint64(d) }

// edgeAddrs are addresses of all families, such as may be and such as may not.
func edgeAddrs() []api.Addr {
	var all []api.Addr
	for _, fam := range edgeFams {
		for _, hi := range edgeWords {
			for _, lo := range edgeWords {
				all = append(all, api.Addr{Fam: fam, Hi: hi, Lo: lo})
			}
		}
	}
	return all
}

// mayBe is the chapter's word for an address: of family 4 Hi is 0 and Lo below 2^32.
func mayBe(a api.Addr) bool {
	return a.Fam == 6 || a.Fam == 4 && a.Hi == 0 && a.Lo < 1<<32
}

// rightAddrs are those of edgeAddrs that may be, and some more.
func rightAddrs() []api.Addr {
	var all []api.Addr
	for _, a := range edgeAddrs() {
		if mayBe(a) {
			all = append(all, a)
		}
	}
	r := rand.New(rand.NewSource(2))
	for range 300 {
		all = append(all, a4(uint64(r.Uint32())), a6(r.Uint64(), r.Uint64()))
	}
	return all
}

func bitsOf(a api.Addr) int {
	if a.Fam == 4 {
		return 32
	}
	return 128
}

// whole is an address's number of up to 128 bits.
func whole(a api.Addr) *big.Int {
	n := new(big.Int).SetUint64(a.Hi)
	return n.Lsh(n, 64).Or(n, new(big.Int).SetUint64(a.Lo))
}

// masked is an address with its bits from bits on taken off one by one.
func masked(a api.Addr, bits int) api.Addr {
	n := whole(a)
	for i := bits; i < bitsOf(a); i++ {
		n.SetBit(n, bitsOf(a)-1-i, 0)
	}
	lo := new(big.Int).SetUint64(most)
	return api.Addr{Fam: a.Fam, Hi: new(big.Int).Rsh(n, 64).Uint64(), Lo: lo.And(lo, n).Uint64()}
}

// P2.1

func TestRight(t *testing.T) {
	for _, c := range []struct {
		a    api.Addr
		want bool
	}{
		{a4(0), true}, {a4(1), true}, {a4(1<<32 - 1), true}, {a4(1 << 32), false}, {a4(most), false},
		{api.Addr{Fam: 4, Hi: 1}, false}, {api.Addr{Fam: 4, Hi: 1 << 63, Lo: 1}, false},
		{a6(0, 0), true}, {a6(most, most), true}, {a6(0, 1<<32), true}, {a6(1, 0), true},
		{api.Addr{}, false}, {api.Addr{Fam: 5}, false}, {api.Addr{Fam: -4}, false}, {api.Addr{Fam: -6, Lo: 1}, false},
	} {
		if addr.Right(c.a) != c.want {
			t.Errorf("Right(%v) is not %v", c.a, c.want)
		}
	}
	for _, a := range edgeAddrs() {
		if addr.Right(a) != mayBe(a) {
			t.Errorf("Right(%v) is not %v", a, mayBe(a))
		}
	}
}

func TestOrder(t *testing.T) {
	for _, c := range []struct {
		a, b api.Addr
		want int
	}{
		{a4(1), a4(1), 0}, {a4(1), a4(2), -1}, {a4(2), a4(1), 1},
		{a4(1<<32 - 1), a6(0, 0), -1}, {a6(0, 0), a4(1<<32 - 1), 1},
		{a6(1, 9), a6(2, 3), -1}, {a6(2, 3), a6(1, 9), 1}, {a6(2, 3), a6(2, 4), -1}, {a6(2, 4), a6(2, 4), 0},
		{a6(1<<63, 0), a6(1, 0), 1}, {a6(0, 1), a6(0, 1<<63), -1}, {a6(most, 0), a6(0, most), 1},
		{api.Addr{Fam: math.MinInt}, api.Addr{Fam: math.MaxInt}, -1}, {api.Addr{Fam: math.MaxInt}, api.Addr{Fam: math.MinInt, Hi: most}, 1},
		{api.Addr{}, api.Addr{}, 0}, {api.Addr{}, api.Addr{Lo: 1}, -1}, {api.Addr{Fam: 4, Hi: 1}, a4(most), 1},
	} {
		if o := addr.Order(c.a, c.b); o != c.want {
			t.Errorf("Order(%v, %v) is %d, not %d", c.a, c.b, o, c.want)
		}
	}
}

func TestOrderIsOneOrder(t *testing.T) {
	all := edgeAddrs()
	for i := 0; i < len(all); i += 7 {
		for j := 0; j < len(all); j += 11 {
			o := addr.Order(all[i], all[j])
			if o != -addr.Order(all[j], all[i]) || (o == 0) != (all[i] == all[j]) {
				t.Fatalf("Order(%v, %v) is %d", all[i], all[j], o)
			}
			if all[i].Fam == all[j].Fam && o != whole(all[i]).Cmp(whole(all[j])) {
				t.Fatalf("Order(%v, %v) is %d, not as their bits", all[i], all[j], o)
			}
		}
	}
}

func TestRightPrefix(t *testing.T) {
	for _, c := range []struct {
		p    api.Prefix
		want bool
	}{
		{api.Prefix{Addr: a4(0)}, true}, {api.Prefix{Addr: a4(1)}, false},
		{api.Prefix{Addr: a4(four(10, 1, 0, 0)), Bits: 16}, true}, {api.Prefix{Addr: a4(four(10, 1, 0, 0)), Bits: 15}, false}, {api.Prefix{Addr: a4(four(10, 1, 0, 0)), Bits: 8}, false},
		{api.Prefix{Addr: a4(1), Bits: 31}, false}, {api.Prefix{Addr: a4(1), Bits: 32}, true}, {api.Prefix{Addr: a4(1), Bits: 33}, false},
		{api.Prefix{Addr: a4(0), Bits: -1}, false}, {api.Prefix{Addr: a4(0), Bits: 33}, false}, {api.Prefix{Addr: a4(0), Bits: 128}, false},
		{api.Prefix{Addr: a4(1 << 32), Bits: 32}, false}, {api.Prefix{Addr: api.Addr{Fam: 4, Hi: 1}, Bits: 32}, false},
		{api.Prefix{Addr: a6(0, 0)}, true}, {api.Prefix{Addr: a6(1<<63, 0), Bits: 1}, true}, {api.Prefix{Addr: a6(1<<63, 0)}, false},
		{api.Prefix{Addr: a6(1, 0), Bits: 63}, false}, {api.Prefix{Addr: a6(1, 0), Bits: 64}, true}, {api.Prefix{Addr: a6(1, 0), Bits: 65}, true},
		{api.Prefix{Addr: a6(1, 1<<63), Bits: 64}, false}, {api.Prefix{Addr: a6(1, 1<<63), Bits: 65}, true},
		{api.Prefix{Addr: a6(0, 1), Bits: 127}, false}, {api.Prefix{Addr: a6(0, 1), Bits: 128}, true}, {api.Prefix{Addr: a6(0, 1), Bits: 129}, false},
		{api.Prefix{Addr: a6(0, 0), Bits: -1}, false}, {api.Prefix{Addr: a6(0, 0), Bits: math.MinInt}, false}, {api.Prefix{Addr: a6(0, 0), Bits: math.MaxInt}, false},
		{api.Prefix{}, false}, {api.Prefix{Addr: api.Addr{Fam: 5}}, false},
	} {
		if addr.RightPrefix(c.p) != c.want {
			t.Errorf("RightPrefix(%v) is not %v", c.p, c.want)
		}
	}
}

func TestRightPrefixAtEdges(t *testing.T) {
	for _, a := range edgeAddrs() {
		for _, bits := range edgeBits {
			want := mayBe(a) && bits >= 0 && bits <= bitsOf(a) && masked(a, bits) == a
			if addr.RightPrefix(api.Prefix{Addr: a, Bits: bits}) != want {
				t.Fatalf("RightPrefix(%v/%d) is not %v", a, bits, want)
			}
		}
	}
}

func TestHas(t *testing.T) {
	for _, c := range []struct {
		p    string
		a    string
		want bool
	}{
		{"10.1.0.0/16", "10.1.2.3", true}, {"10.1.0.0/16", "10.1.0.0", true}, {"10.1.0.0/16", "10.1.255.255", true},
		{"10.1.0.0/16", "10.2.0.0", false}, {"10.1.0.0/16", "10.0.255.255", false}, {"10.1.0.0/16", "138.1.2.3", false},
		{"0.0.0.0/0", "0.0.0.0", true}, {"0.0.0.0/0", "255.255.255.255", true}, {"0.0.0.0/0", "::", false},
		{"128.0.0.0/1", "127.255.255.255", false}, {"128.0.0.0/1", "128.0.0.0", true},
		{"10.0.0.2/31", "10.0.0.3", true}, {"10.0.0.2/31", "10.0.0.1", false},
		{"10.0.0.2", "10.0.0.2", true}, {"10.0.0.2", "10.0.0.3", false}, {"0.0.0.0/32", "::", false},
		{"::/0", "ffff::1", true}, {"::/0", "10.0.0.1", false}, {"::/96", "10.0.0.1", false}, {"::/96", "::a00:1", true},
		{"fe80::/10", "febf:ffff::1", true}, {"fe80::/10", "fec0::", false},
		{"2001:db8::/64", "2001:db8::ffff:0:0:1", true}, {"2001:db8::/64", "2001:db8:0:1::", false},
		{"2001:db8::/63", "2001:db8:0:1::", true}, {"2001:db8:0:0:8000::/65", "2001:db8::1", false}, {"2001:db8:0:0:8000::/65", "2001:db8::ffff:0:0:1", true},
		{"::2/127", "::3", true}, {"::2/127", "::1", false}, {"::1", "::1", true}, {"::1", "::", false}, {"::1", "8000::1", false},
	} {
		p, e := addr.ParsePrefix(c.p)
		a, e2 := addr.Parse(c.a)
		if e != api.OK || e2 != api.OK {
			t.Fatal(c.p, e, c.a, e2)
		}
		if addr.Has(p, a) != c.want {
			t.Errorf("whether %s has %s is not %v", c.p, c.a, c.want)
		}
	}
}

func TestHasOfWhatMayNotBe(t *testing.T) {
	good := api.Prefix{Addr: a4(0)}
	for _, c := range []struct {
		p api.Prefix
		a api.Addr
	}{
		{good, a4(1 << 32)}, {good, api.Addr{Fam: 4, Hi: 1}}, {good, api.Addr{}},
		{api.Prefix{}, api.Addr{}}, {api.Prefix{}, a4(0)}, {api.Prefix{Addr: api.Addr{Fam: 5}}, api.Addr{Fam: 5}},
		{api.Prefix{Addr: a4(1), Bits: 31}, a4(1)}, {api.Prefix{Addr: a4(four(10, 1, 0, 0)), Bits: 8}, a4(four(10, 1, 0, 0))},
		{api.Prefix{Addr: a4(1), Bits: 33}, a4(1)}, {api.Prefix{Addr: a4(0), Bits: -1}, a4(0)}, {api.Prefix{Addr: a4(1 << 32), Bits: 32}, a4(1 << 32)},
		{api.Prefix{Addr: a4(0), Bits: 64}, a4(0)}, {api.Prefix{Addr: a4(0), Bits: 128}, a4(0)},
		{api.Prefix{Addr: a6(0, 1), Bits: 127}, a6(0, 1)}, {api.Prefix{Addr: a6(0, 1), Bits: 129}, a6(0, 1)}, {api.Prefix{Addr: a6(0, 0), Bits: -1}, a6(0, 0)},
		{api.Prefix{Addr: a6(0, 0), Bits: math.MinInt}, a6(0, 0)}, {api.Prefix{Addr: a6(0, 0), Bits: math.MaxInt}, a6(0, 0)},
	} {
		if addr.Has(c.p, c.a) {
			t.Errorf("%v has %v", c.p, c.a)
		}
	}
}

// P2.2

func TestBytes(t *testing.T) {
	for _, c := range []struct {
		a    api.Addr
		want []byte
	}{
		{a4(four(10, 1, 2, 3)), []byte{10, 1, 2, 3}}, {a4(0), make([]byte, 4)}, {a4(1<<32 - 1), []byte{255, 255, 255, 255}}, {a4(1), []byte{0, 0, 0, 1}},
		{a6(0x0102030405060708, 0x090a0b0c0d0e0f10), []byte{1, 2, 3, 4, 5, 6, 7, 8, 9, 10, 11, 12, 13, 14, 15, 16}},
		{a6(0, 0), make([]byte, 16)}, {a6(most, 0), append(bytes.Repeat([]byte{255}, 8), make([]byte, 8)...)},
		{api.Addr{}, nil}, {a4(1 << 32), nil}, {api.Addr{Fam: 4, Hi: 1}, nil}, {api.Addr{Fam: 5, Lo: 1}, nil}, {api.Addr{Fam: -6}, nil},
	} {
		if b := addr.Bytes(c.a); !bytes.Equal(b, c.want) {
			t.Errorf("Bytes(%v) are %v, not %v", c.a, b, c.want)
		}
	}
	for _, a := range edgeAddrs() {
		want := []byte(nil)
		if mayBe(a) {
			want = whole(a).FillBytes(make([]byte, bitsOf(a)/8))
		}
		if b := addr.Bytes(a); !bytes.Equal(b, want) {
			t.Fatalf("Bytes(%v) are %v, not %v", a, b, want)
		}
	}
}

func TestFrom(t *testing.T) {
	row := []byte{1, 2, 3, 4, 5, 6, 7, 8, 9, 10, 11, 12, 13, 14, 15, 16, 17, 18, 19, 20}
	for n := range row {
		want, we := api.Addr{}, api.ErrArg
		if n == 4 {
			want, we = a4(0x01020304), api.OK
		}
		if n == 16 {
			want, we = a6(0x0102030405060708, 0x090a0b0c0d0e0f10), api.OK
		}
		if a, e := addr.From(row[:n]); a != want || e != we {
			t.Errorf("From of %d bytes: %v %d, not %v %d", n, a, e, want, we)
		}
	}
	if a, e := addr.From(nil); a != (api.Addr{}) || e != api.ErrArg {
		t.Error("From of nil:", a, e)
	}
	if a, e := addr.From(bytes.Repeat([]byte{255}, 4)); a != a4(1<<32-1) || e != api.OK {
		t.Error("From of the greatest four:", a, e)
	}
	if a, e := addr.From(bytes.Repeat([]byte{255}, 16)); a != a6(most, most) || e != api.OK {
		t.Error("From of the greatest sixteen:", a, e)
	}
}

func TestMask(t *testing.T) {
	for _, c := range []struct {
		a    api.Addr
		bits int
		want api.Addr
	}{
		{a4(four(10, 1, 2, 3)), 16, a4(four(10, 1, 0, 0))}, {a4(four(10, 1, 2, 3)), 32, a4(four(10, 1, 2, 3))}, {a4(four(10, 1, 2, 3)), 31, a4(four(10, 1, 2, 2))},
		{a4(1<<32 - 1), 0, a4(0)}, {a4(1<<32 - 1), 1, a4(1 << 31)},
		{a6(most, most), 0, a6(0, 0)}, {a6(most, most), 1, a6(1<<63, 0)}, {a6(most, most), 63, a6(most-1, 0)}, {a6(most, most), 64, a6(most, 0)},
		{a6(most, most), 65, a6(most, 1<<63)}, {a6(most, most), 127, a6(most, most-1)}, {a6(most, most), 128, a6(most, most)},
		{a6(0, 1<<31), 96, a6(0, 0)}, {a6(0, 1<<31), 97, a6(0, 1<<31)},
	} {
		if m, e := addr.Mask(c.a, c.bits); m != c.want || e != api.OK {
			t.Errorf("Mask(%v, %d) is %v %d, not %v", c.a, c.bits, m, e, c.want)
		}
	}
}

func TestMaskAtEdges(t *testing.T) {
	for _, a := range edgeAddrs() {
		for _, bits := range edgeBits {
			want, we := api.Addr{}, api.ErrArg
			if mayBe(a) && bits >= 0 && bits <= bitsOf(a) {
				want, we = masked(a, bits), api.OK
			}
			if m, e := addr.Mask(a, bits); m != want || e != we {
				t.Fatalf("Mask(%v, %d) is %v %d, not %v %d", a, bits, m, e, want, we)
			}
		}
	}
}

func TestMaskAtEveryBit(t *testing.T) {
	for _, a := range []api.Addr{a4(1<<32 - 1), a6(most, most), a4(0xa5a5a5a5), a6(0xa5a5a5a5a5a5a5a5, 0x5a5a5a5a5a5a5a5a)} {
		for bits := -1; bits <= bitsOf(a)+1; bits++ {
			m, e := addr.Mask(a, bits)
			out := bits < 0 || bits > bitsOf(a)
			if out && (e != api.ErrArg || m != api.Addr{}) || !out && (e != api.OK || m != masked(a, bits)) {
				t.Errorf("Mask(%v, %d) is %v %d", a, bits, m, e)
			}
		}
	}
}

// P2.5

func TestPrefixHasWhatIsMaskedToIt(t *testing.T) {
	all := rightAddrs()
	for i, a := range all {
		bits := i * 37 % (bitsOf(a) + 1)
		p := api.Prefix{Addr: masked(a, bits), Bits: bits}
		if !addr.Has(p, a) {
			t.Fatalf("%v has not %v", p, a)
		}
		for _, b := range []api.Addr{all[i*7919%len(all)], a4(a.Lo & (1<<32 - 1)), a6(a.Hi, a.Lo), a6(a.Hi, ^a.Lo), a6(^a.Hi, a.Lo)} {
			m, e := addr.Mask(b, bits)
			if addr.Has(p, b) != (e == api.OK && m == p.Addr) {
				t.Fatalf("%v and %v: not as Mask says", p, b)
			}
		}
	}
}

func TestPrefixEndsAtItsLastBit(t *testing.T) {
	for _, a := range []api.Addr{a4(0), a4(1<<32 - 1), a4(four(10, 1, 2, 3)), a6(0, 0), a6(most, most), a6(0x20010db812345678, 0x9abcdef012345678)} {
		for bits := 0; bits <= bitsOf(a); bits++ {
			p := api.Prefix{Addr: masked(a, bits), Bits: bits}
			for i := range bitsOf(a) {
				n := whole(a)
				b := addr.Bytes(a)
				b[i/8] ^= 1 << (7 - i%8)
				turned, e := addr.From(b)
				if e != api.OK || whole(turned).Cmp(n) == 0 {
					t.Fatal(turned, e)
				}
				if addr.Has(p, turned) != (i >= bits) {
					t.Fatalf("%v, with bit %d of %v turned", p, i, a)
				}
			}
		}
	}
}

// P2.6

func TestPrefixesNestOrAreApart(t *testing.T) {
	var all []api.Prefix
	for i, a := range rightAddrs() {
		for _, bits := range []int{0, 1, 8, 31, 32, 33, 63, 64, 65, 127, 128, i % 33, i % 129} {
			if bits <= bitsOf(a) {
				all = append(all, api.Prefix{Addr: masked(a, bits), Bits: bits})
			}
		}
	}
	for i := 0; i < len(all); i += 5 {
		for j := i; j < len(all); j += 17 {
			p, q := all[i], all[j]
			if p.Bits > q.Bits {
				p, q = q, p
			}
			first, last := q.Addr, lastOf(q)
			if one, two := addr.Has(p, first), addr.Has(p, last); one != two {
				t.Fatalf("%v has one end of %v and not the other one", p, q)
			} else if !one && addr.Has(q, p.Addr) || !one && addr.Has(q, lastOf(p)) {
				t.Fatalf("%v has an end of %v, which has none of it", q, p)
			}
		}
	}
}

// lastOf is the greatest address of a prefix.
func lastOf(p api.Prefix) api.Addr {
	n := whole(p.Addr)
	for i := range bitsOf(p.Addr) - p.Bits {
		n.SetBit(n, i, 1)
	}
	a, _ := addr.From(n.FillBytes(make([]byte, bitsOf(p.Addr)/8)))
	return a
}

// R4

func TestBytesAreTheCallers(t *testing.T) {
	for _, a := range []api.Addr{a4(four(10, 1, 2, 3)), a6(1, 2)} {
		one, two := addr.Bytes(a), addr.Bytes(a)
		for i := range one {
			one[i] = 77
		}
		if three := addr.Bytes(a); !bytes.Equal(two, three) {
			t.Error("bytes that were written into turned others:", two, three)
		}
		_ = append(two[:2], 99, 99)
		if got, e := addr.From(addr.Bytes(a)); got != a || e != api.OK {
			t.Error(got, e)
		}
	}
}

func TestFromLeavesItsBytes(t *testing.T) {
	for _, n := range []int{0, 1, 3, 4, 5, 15, 16, 17} {
		b := make([]byte, n, n+8)
		for i := range b[:cap(b)] {
			b[:cap(b)][i] = byte(i + 1)
		}
		was := bytes.Clone(b[:cap(b)])
		a, e := addr.From(b)
		if !bytes.Equal(was, b[:cap(b)]) {
			t.Error("From wrote into what it was handed:", b[:cap(b)])
		}
		for i := range b {
			b[i] = 0
		}
		if c, d := addr.From(was[:n]); a != c || e != d {
			t.Error("From kept what it was handed:", a, c)
		}
	}
}
