package addr_test

import (
	"bytes"
	"math"
	"math/rand"
	"net/netip"
	"strconv"
	"strings"
	"testing"

	"stockade/addr"
	"stockade/api"
)

// P2.3: what is written

func TestText(t *testing.T) {
	for _, c := range []struct {
		a    api.Addr
		want string
	}{
		{a4(0), "0.0.0.0"}, {a4(four(10, 1, 2, 3)), "10.1.2.3"}, {a4(1<<32 - 1), "255.255.255.255"}, {a4(four(100, 0, 99, 9)), "100.0.99.9"},
		{a6(0, 0), "::"}, {a6(0, 1), "::1"}, {a6(1<<48, 0), "1::"}, {a6(most, most), "ffff:ffff:ffff:ffff:ffff:ffff:ffff:ffff"},
		{a6(0x20010db800000000, 1), "2001:db8::1"},
		{a6(0x0001000000000002, 0x0000000000000003), "1:0:0:2::3"},
		// Of two rows of one length the first one goes.
		{a6(0x0001000000000002, 0x0003000000000004), "1::2:3:0:0:4"},
		{a6(0x0000000000010002, 0x0003000400000000), "::1:2:3:4:0:0"},
		{a6(0x0001000000000000, 0x0002000000000000), "1::2:0:0:0"},
		{a6(0x0000000000010000, 0x0000000100000000), "::1:0:0:1:0:0"},
		// The longer row goes, wherever it stands.
		{a6(0x0000000000010000, 0x0000000000020003), "0:0:1::2:3"},
		{a6(0x0000000000000001, 0x0000000000020003), "::1:0:0:2:3"},
		{a6(0x0000000000010002, 0x0003000000000000), "0:0:1:2:3::"},
		// A row of one group stays.
		{a6(0x0000000100020003, 0x0004000500060007), "0:1:2:3:4:5:6:7"},
		{a6(0x0001000200030004, 0x0005000600070000), "1:2:3:4:5:6:7:0"},
		{a6(0x0001000000020000, 0x0003000000040000), "1:0:2:0:3:0:4:0"},
		{a6(0x0001000200030000, 0x0000000500060007), "1:2:3::5:6:7"},
		{a6(0x0001000200030000, 0x0004000500060007), "1:2:3:0:4:5:6:7"},
		{a6(0, 0x0000000000000000|1<<48), "::1:0:0:0"},
		{a6(0x000a00b00c00d000, 0x0abc00de000f1000), "a:b0:c00:d000:abc:de:f:1000"},
		// No dots, whatever a group means to others.
		{a6(0, 0x0000ffff0a010203), "::ffff:a01:203"},
		{api.Addr{}, ""}, {a4(1 << 32), ""}, {api.Addr{Fam: 4, Hi: 1}, ""}, {api.Addr{Fam: 5, Lo: 1}, ""}, {api.Addr{Fam: -4}, ""},
	} {
		if s := addr.Text(c.a); s != c.want {
			t.Errorf("Text(%v) is %q, not %q", c.a, s, c.want)
		}
	}
	for _, a := range edgeAddrs() {
		if s := addr.Text(a); (s != "") != mayBe(a) {
			t.Errorf("Text(%v) is %q", a, s)
		}
	}
}

// manyGroups are addresses of family 6 with every way in which their groups may be 0 or not.
func manyGroups() []api.Addr {
	var all []api.Addr
	for set := range 256 {
		for _, word := range []uint64{1, 0xf0, 0xabc, 0xffff} {
			b := make([]byte, 16)
			for i := range 8 {
				if set>>i&1 == 1 {
					b[2*i], b[2*i+1] = byte(word>>8), byte(word)
				}
			}
			a, _ := addr.From(b)
			all = append(all, a)
		}
	}
	return all
}

// libraryText is an address's text as the library writes it, but for what it writes with dots.
func libraryText(a api.Addr) (string, bool) {
	n, _ := netip.AddrFromSlice(addr.Bytes(a))
	return n.String(), !n.Is4In6()
}

func TestTextAsOthersWriteIt(t *testing.T) {
	for _, a := range append(manyGroups(), rightAddrs()...) {
		if want, ok := libraryText(a); ok && addr.Text(a) != want {
			t.Errorf("Text(%v) is %q, not %q", a, addr.Text(a), want)
		}
	}
}

func TestPrefixText(t *testing.T) {
	for _, c := range []struct {
		p    api.Prefix
		want string
	}{
		{api.Prefix{Addr: a4(0)}, "0.0.0.0/0"}, {api.Prefix{Addr: a4(four(10, 1, 0, 0)), Bits: 16}, "10.1.0.0/16"}, {api.Prefix{Addr: a4(four(10, 1, 2, 3)), Bits: 32}, "10.1.2.3/32"},
		{api.Prefix{Addr: a6(0, 0)}, "::/0"}, {api.Prefix{Addr: a6(0x20010db800000000, 0), Bits: 32}, "2001:db8::/32"}, {api.Prefix{Addr: a6(0, 1), Bits: 128}, "::1/128"}, {api.Prefix{Addr: a6(1, 0), Bits: 64}, "0:0:0:1::/64"},
		{api.Prefix{Addr: a4(four(10, 1, 0, 0)), Bits: 8}, ""}, {api.Prefix{Addr: a4(0), Bits: 33}, ""}, {api.Prefix{Addr: a4(0), Bits: -1}, ""}, {api.Prefix{Addr: a6(0, 1), Bits: 127}, ""},
		{api.Prefix{Addr: a6(0, 0), Bits: 129}, ""}, {api.Prefix{}, ""}, {api.Prefix{Addr: a4(1 << 32), Bits: 32}, ""}, {api.Prefix{Addr: a6(0, 0), Bits: math.MinInt}, ""},
	} {
		if s := addr.PrefixText(c.p); s != c.want {
			t.Errorf("PrefixText(%v) is %q, not %q", c.p, s, c.want)
		}
	}
}

// P2.3: what is read

func TestParse(t *testing.T) {
	for _, c := range []struct {
		s    string
		want api.Addr
	}{
		{"0.0.0.0", a4(0)}, {"255.255.255.255", a4(1<<32 - 1)}, {"10.1.2.3", a4(four(10, 1, 2, 3))}, {"1.20.199.250", a4(four(1, 20, 199, 250))}, {"0.10.100.0", a4(four(0, 10, 100, 0))},
		{"::", a6(0, 0)}, {"::1", a6(0, 1)}, {"1::", a6(1<<48, 0)}, {"0:0:0:0:0:0:0:0", a6(0, 0)}, {"::0", a6(0, 0)}, {"0::", a6(0, 0)}, {"0::0", a6(0, 0)},
		{"2001:0DB8::1", a6(0x20010db800000000, 1)}, {"2001:db8:0:0:0:0:0:1", a6(0x20010db800000000, 1)},
		{"1:2:3:4:5:6:7:8", a6(0x0001000200030004, 0x0005000600070008)}, {"0001:0002:0003:0004:0005:0006:0007:0008", a6(0x0001000200030004, 0x0005000600070008)},
		{"abcd:ef01:ABCD:EF01:aBcD:Ef01:0:0000", a6(0xabcdef01abcdef01, 0xabcdef0100000000)},
		// `::` in the place of one group: ahead of the first, between two, behind the last.
		{"::2:3:4:5:6:7:8", a6(0x0000000200030004, 0x0005000600070008)},
		{"1:2:3::5:6:7:8", a6(0x0001000200030000, 0x0005000600070008)},
		{"1::3:4:5:6:7:8", a6(0x0001000000030004, 0x0005000600070008)},
		{"1:2:3:4:5:6::8", a6(0x0001000200030004, 0x0005000600000008)},
		{"1:2:3:4:5:6:7::", a6(0x0001000200030004, 0x0005000600070000)},
		// And of several.
		{"::7:8", a6(0, 0x0000000000070008)}, {"1::8", a6(1<<48, 8)}, {"1:2::", a6(0x0001000200000000, 0)}, {"1:0:0:2::3", a6(0x0001000000000002, 3)}, {"1:2:3:4::", a6(0x0001000200030004, 0)}, {"::5:6:7:8", a6(0, 0x0005000600070008)},
	} {
		if a, e := addr.Parse(c.s); a != c.want || e != api.OK {
			t.Errorf("Parse(%q) is %v %d, not %v", c.s, a, e, c.want)
		}
	}
}

// wrongAddrs are texts that are no address.
var wrongAddrs = []string{
	"", " ", ".", "...", "....", "0", "10", "1.2.3", "1.2.3.", ".1.2.3", ".1.2.3.4", "1.2.3.4.", "1..2.3", "1.2..3.4", "1.2.3.4.5", "1.2.3.4.5.6",
	"256.0.0.0", "0.256.0.0", "0.0.256.0", "0.0.0.256", "1000.0.0.0", "1.2.3.999", "00.0.0.0", "01.2.3.4", "1.2.3.04", "1.2.3.00", "1.2.003.4",
	"+1.2.3.4", "-1.2.3.4", "1.2.3.-0", "a.b.c.d", "1.2.3.a", "0x1.2.3.4", "1.2.3.4 ", " 1.2.3.4", "1. 2.3.4", "1.2.3.4\n", "1.2.3.4\x00", "1,2,3,4", "1.2.3.4/32", "1.2.3.4%1",
	"18446744073709551617.0.0.0", "1.2.3.18446744073709551620", "1.2.3.4294967297", "1.2.3.\u0661", "1.2.3.\uff11", "1.2.3.\xff", "\xf0.1.2.3", "1\u30022\u30023\u30024",
	":", ":::", "::::", ":1", "1:", "1", "1:2", ":::1", "1:::", "1:::2", "::1::", "1::2::3", "::1::2", "::::1", "1::::2", ":1::", "::1:", ":1:2:3:4:5:6:7", "1:2:3:4:5:6:7:",
	"1:2:3:4:5:6:7", "1:2:3:4:5:6:7:8:", ":1:2:3:4:5:6:7:8", "1:2:3:4:5:6:7:8:9", "::1:2:3:4:5:6:7:8", "1:2:3:4:5:6:7:8::", "1:2:3:4::5:6:7:8", "1:2:3:4:5:6:7::8", "1::2:3:4:5:6:7:8", "1:2:3:4:5::6:7:8:9", "1:2:3:4:5:6:7:8:9::", "::1:2:3:4:5:6:7:8:9", "1:2:3:4:5:6:7:8:9:a::",
	"00001::", "::00000", "12345::", "::12345", "1:2:3:4:5:6:7:00008", "::fffff", "g::", "::g", "::G", "1:2:3:4:5:6:7:g", "::@", "::`", "::/", "::1/128", "::-1", "::+1", "::0x1", ":: ", " ::", "::1 ", "1: :2", "::\n", "::\x00", "fe80::1%1", "[::1]",
	"::1.2.3.4", "::ffff:1.2.3.4", "1:2:3:4:5:6:1.2.3.4", "1.2.3.4:1:2:3:4:5:6", "1.2.3.4::", "::\xff", "\xff::", "\u00e9::", "::\uff11", "::\u0661", "1\uff1a:2", "::\xc3\x28",
}

func TestParseRefuses(t *testing.T) {
	for _, s := range wrongAddrs {
		if a, e := addr.Parse(s); a != (api.Addr{}) || e != api.ErrArg {
			t.Errorf("Parse(%q) is %v %d", s, a, e)
		}
	}
	for r := range 256 {
		for _, form := range []string{"1.2.3.x", "x.2.3.4", "x::", "::x", "1:2:3:4:5:6:7:0x"} {
			s := strings.Replace(form, "x", string([]byte{byte(r)}), 1)
			want := strings.ContainsRune("0123456789", rune(r)) || strings.Contains(form, ":") && strings.ContainsRune("abcdefABCDEF", rune(r))
			if _, e := addr.Parse(s); (e == api.OK) != want {
				t.Errorf("Parse(%q) answers %d", s, e)
			}
		}
	}
}

func TestParseOfLongTexts(t *testing.T) {
	for _, s := range []string{"0", "1", "f", ".", ":", "::", "1.", "1:", "\xff", "/"} {
		long := strings.Repeat(s, 100000)
		for _, text := range []string{long, "1.2.3." + long, "::" + long, long + "::1", "1:2:3:4:5:6:7:" + long} {
			if a, e := addr.Parse(text); a != (api.Addr{}) || e != api.ErrArg {
				t.Errorf("Parse of many %q is %v %d", s, a, e)
			}
			if p, e := addr.ParsePrefix(text); p != (api.Prefix{}) || e != api.ErrArg {
				t.Errorf("ParsePrefix of many %q is %v %d", s, p, e)
			}
		}
		if p, e := addr.ParsePrefix("1.2.3.4/" + long); p != (api.Prefix{}) || e != api.ErrArg {
			t.Errorf("ParsePrefix with many %q behind the stroke is %v %d", s, p, e)
		}
	}
}

func TestParsePrefix(t *testing.T) {
	for _, c := range []struct {
		s    string
		want api.Prefix
	}{
		{"0.0.0.0/0", api.Prefix{Addr: a4(0)}}, {"10.1.0.0/16", api.Prefix{Addr: a4(four(10, 1, 0, 0)), Bits: 16}}, {"10.1.2.3/32", api.Prefix{Addr: a4(four(10, 1, 2, 3)), Bits: 32}}, {"10.1.2.3", api.Prefix{Addr: a4(four(10, 1, 2, 3)), Bits: 32}},
		{"10.1.2.2/31", api.Prefix{Addr: a4(four(10, 1, 2, 2)), Bits: 31}}, {"0.0.0.0", api.Prefix{Addr: a4(0), Bits: 32}}, {"128.0.0.0/1", api.Prefix{Addr: a4(1 << 31), Bits: 1}},
		{"::/0", api.Prefix{Addr: a6(0, 0)}}, {"::", api.Prefix{Addr: a6(0, 0), Bits: 128}}, {"::1", api.Prefix{Addr: a6(0, 1), Bits: 128}}, {"2001:DB8::/32", api.Prefix{Addr: a6(0x20010db800000000, 0), Bits: 32}},
		{"0:0:0:1::/64", api.Prefix{Addr: a6(1, 0), Bits: 64}}, {"0:0:0:1::/65", api.Prefix{Addr: a6(1, 0), Bits: 65}}, {"::2/127", api.Prefix{Addr: a6(0, 2), Bits: 127}}, {"::1/128", api.Prefix{Addr: a6(0, 1), Bits: 128}}, {"0:0:0:2::/63", api.Prefix{Addr: a6(2, 0), Bits: 63}},
	} {
		if p, e := addr.ParsePrefix(c.s); p != c.want || e != api.OK {
			t.Errorf("ParsePrefix(%q) is %v %d, not %v", c.s, p, e, c.want)
		}
	}
}

func TestParsePrefixRefuses(t *testing.T) {
	wrong := []string{
		"10.1.0.0/8", "10.1.0.0/15", "1.2.3.5/31", "1.2.3.4/29", "0.0.0.1/0", "0.0.0.0/33", "0.0.0.0/64", "0.0.0.0/128", "255.255.255.255/0", "128.0.0.0/0",
		"::1/127", "::1/0", "::1/64", "0:0:0:1::/63", "0:0:0:1:8000::/64", "::/129", "::/1000", "1::/15",
		"/", "/0", "//", "/32", "0.0.0.0/", "::/", "0.0.0.0//0", "0.0.0.0/0/", "0.0.0.0/0/0", "10.1.2.3/32/32", "::/0/0", "0.0.0.0/00", "0.0.0.0/01", "0.0.0.0/08", "::/00", "::/012", "0.0.0.0/-0", "0.0.0.0/-1", "0.0.0.0/+1", "0.0.0.0/ 1", "0.0.0.0/1 ", "0.0.0.0 /1", " 0.0.0.0/1", "0.0.0.0/a", "::/a", "::/0x1", "0.0.0.0/1.", "0.0.0.0/1\n",
		"0.0.0.0/18446744073709551616", "0.0.0.0/18446744073709551648", "::/18446744073709551744", "0.0.0.0/4294967296", "0.0.0.0/\u0661", "0.0.0.0/\xff", "0.0.0.0\xff/1", "0.0.0.0/0.0.0.0", "0.0.0.0\u20440",
	}
	for _, s := range wrongAddrs {
		if !strings.Contains(s, "/") {
			wrong = append(wrong, s, s+"/0", s+"/32", s+"/128")
		}
	}
	for _, s := range wrong {
		if p, e := addr.ParsePrefix(s); p != (api.Prefix{}) || e != api.ErrArg {
			t.Errorf("ParsePrefix(%q) is %v %d", s, p, e)
		}
	}
}

func TestParsePrefixOfEveryBits(t *testing.T) {
	for _, a := range []api.Addr{a4(0), a4(1<<32 - 1), a4(four(10, 1, 0, 0)), a6(0, 0), a6(most, most), a6(1, 0), a6(0x20010db800000000, 0)} {
		for bits := -1; bits <= 130; bits++ {
			p, e := addr.ParsePrefix(addr.Text(a) + "/" + strconv.Itoa(bits))
			want := api.Prefix{Addr: a, Bits: bits}
			if ok := bits >= 0 && bits <= bitsOf(a) && masked(a, bits) == a; ok != (e == api.OK) || ok && p != want || !ok && (p != api.Prefix{} || e != api.ErrArg) {
				t.Errorf("%s/%d is read as %v %d", addr.Text(a), bits, p, e)
			}
		}
	}
}

// libraryParse is what the library reads, but for what it reads beyond the chapter: names of zones, and dots behind groups.
func libraryParse(s string) (api.Addr, api.Errno) {
	n, err := netip.ParseAddr(s)
	if err != nil || strings.Contains(s, "%") || strings.Contains(s, ":") && strings.Contains(s, ".") {
		return api.Addr{}, api.ErrArg
	}
	return addr.From(n.AsSlice())
}

func TestParseAsOthersReadIt(t *testing.T) {
	r := rand.New(rand.NewSource(3))
	words := []string{"0", "1", "00", "01", "a", "F", "255", "256", "ffff", "0000", "00000", "g", "", "9", "10"}
	read := 0
	for range 200000 {
		var s strings.Builder
		mark := []string{":", ":", "."}[r.Intn(3)]
		n := r.Intn(10)
		for i := range n {
			if i > 0 {
				s.WriteString(mark)
				if r.Intn(8) == 0 {
					s.WriteString(mark)
				}
			}
			s.WriteString(words[r.Intn(len(words)-r.Intn(9))])
		}
		want, we := libraryParse(s.String())
		if a, e := addr.Parse(s.String()); a != want || e != we {
			t.Fatalf("Parse(%q) is %v %d, not %v %d", s.String(), a, e, want, we)
		}
		if we == api.OK {
			read++
		}
	}
	if read < 1000 {
		t.Error("too few of the texts are addresses:", read)
	}
}

// P2.4

func TestTextsComeBack(t *testing.T) {
	texts := map[string]api.Addr{}
	for _, a := range append(manyGroups(), rightAddrs()...) {
		s := addr.Text(a)
		if b, e := addr.Parse(s); b != a || e != api.OK {
			t.Errorf("%v is written as %q, and read as %v %d", a, s, b, e)
		}
		if b, e := addr.Parse(strings.ToUpper(s)); b != a || e != api.OK {
			t.Errorf("%v in great letters is read as %v %d", a, b, e)
		}
		if b, ok := texts[s]; ok && b != a {
			t.Errorf("%v and %v are both written as %q", a, b, s)
		}
		texts[s] = a
		if b, e := addr.From(addr.Bytes(a)); b != a || e != api.OK {
			t.Errorf("the bytes of %v are those of %v %d", a, b, e)
		}
	}
}

func TestBytesComeBack(t *testing.T) {
	r := rand.New(rand.NewSource(4))
	for range 1000 {
		b := make([]byte, []int{4, 16}[r.Intn(2)])
		r.Read(b)
		a, e := addr.From(b)
		if e != api.OK || !addr.Right(a) || !bytes.Equal(addr.Bytes(a), b) {
			t.Fatalf("%v are read as %v %d", b, a, e)
		}
	}
}

func TestPrefixTextsComeBack(t *testing.T) {
	texts := map[string]api.Prefix{}
	for i, a := range rightAddrs() {
		for _, bits := range []int{0, 1, 31, 32, 64, 127, 128, i % 129} {
			if bits > bitsOf(a) {
				continue
			}
			p := api.Prefix{Addr: masked(a, bits), Bits: bits}
			s := addr.PrefixText(p)
			if q, e := addr.ParsePrefix(s); q != p || e != api.OK {
				t.Fatalf("%v is written as %q, and read as %v %d", p, s, q, e)
			}
			if q, ok := texts[s]; ok && q != p {
				t.Fatalf("%v and %v are both written as %q", p, q, s)
			}
			texts[s] = p
		}
	}
}

func FuzzParse(f *testing.F) {
	for _, s := range wrongAddrs {
		f.Add(s)
	}
	f.Add("2001:0DB8::1")
	f.Add("10.1.0.0/16")
	f.Fuzz(func(t *testing.T, s string) {
		want, we := libraryParse(s)
		if a, e := addr.Parse(s); a != want || e != we {
			t.Errorf("Parse(%q) is %v %d, not %v %d", s, a, e, want, we)
		}
		p, e := addr.ParsePrefix(s)
		if (e == api.OK) != addr.RightPrefix(p) {
			t.Errorf("ParsePrefix(%q) is %v %d", s, p, e)
		}
	})
}
