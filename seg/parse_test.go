package seg_test

import (
	"bytes"
	"encoding/binary"
	"math"
	"slices"
	"testing"

	"stockade/api"
	"stockade/seg"
)

// carry is an ordinary packet that carries b.
func carry(fam, proto int, b []byte) api.Ip {
	src, dst := ends(fam)
	return api.Ip{Fam: fam, Src: src, Dst: dst, Proto: proto, Hop: 64, Data: b}
}

// way is the ordinary ends' way.
func way(fam, proto, sport, dport int) api.Tuple {
	src, dst := ends(fam)
	return api.Tuple{Fam: fam, Proto: proto, Src: src, Dst: dst, Sport: sport, Dport: dport}
}

// plainSum is the sum of bytes by its rest at 65535, which is 0 for bytes that are all 0 alone.
func plainSum(b []byte) int {
	total, some := uint64(0), false
	for i, x := range b {
		total += uint64(x) << (8 * (1 - i%2))
		some = some || x != 0
	}
	if some && total%65535 == 0 {
		return 65535
	}
	return int(total % 65535)
}

// ahead is what is summed ahead of what an ordinary packet carries.
func ahead(fam, proto, size int) []byte {
	if proto == 1 {
		return nil
	}
	return plainPseudo(fam, proto, size)
}

// checkAt is where a protocol's check sum stands.
func checkAt(proto int) int {
	return map[int]int{6: 16, 17: 6, 1: 2, 58: 2}[proto]
}

// summed are the bytes that an ordinary packet's check sum is made of.
func summed(p api.Ip) []byte {
	b := p.Data
	if p.Proto == 17 {
		if n := int(binary.BigEndian.Uint16(b[4:])); n >= 8 && n <= len(b) {
			b = b[:n]
		}
	}
	return slices.Concat(ahead(p.Fam, p.Proto, len(b)), b)
}

// mended is an ordinary packet with a right check sum.
func mended(p api.Ip) api.Ip {
	p.Data = slices.Clone(p.Data)
	check := p.Data[checkAt(p.Proto):]
	check[0], check[1] = 0, 0
	n := 65535 - plainSum(summed(p))
	if n == 0 && p.Proto == 17 {
		n = 65535
	}
	binary.BigEndian.PutUint16(check, uint16(n))
	return p
}

// turned is a packet with one byte of Data other than it was.
func turned(p api.Ip, at int, by byte) api.Ip {
	p.Data = slices.Clone(p.Data)
	p.Data[at] ^= by
	return p
}

// stream is a TCP that is written by hand, with 1 in all bits that have no name.
type stream struct {
	words   int // 0: as many as the header has
	flags   int
	options []byte
	data    []byte
}

// in is the packet that carries it.
func (s stream) in(fam int) api.Ip {
	words := s.words
	if words == 0 {
		words = 5 + len(s.options)/4
	}
	b := be16(0xfedc, 0xba98, 0x8765, 0x4321, 0xfeed, 0xbeef)
	b = append(b, byte(words<<4|15), byte(s.flags|3<<6))
	b = append(b, be16(0xabcd, 0, 0xffff)...)
	return mended(carry(fam, 6, slices.Concat(b, s.options, s.data)))
}

// seg is what Parse should tell of it.
func (s stream) seg(fam int) api.Seg {
	return api.Seg{Tuple: way(fam, 6, 0xfedc, 0xba98), Flags: s.flags, Seq: 0x87654321, Ack: 0xfeedbeef, Win: 0xabcd, Data: s.data}
}

// udp is a packet that carries a UDP of a length that is size more than its own, with bytes behind.
func udp(fam, size int, data, tail []byte) api.Ip {
	b := be16(0xfedc, 0xba98, 8+len(data)+size, 0)
	return mended(carry(fam, 17, slices.Concat(b, data, tail)))
}

// udpSeg is what Parse should tell of it.
func udpSeg(fam int, data []byte) api.Seg {
	return api.Seg{Tuple: way(fam, 17, 0xfedc, 0xba98), Data: data}
}

// message is a packet that carries an ICMP whose number is 0x8001.
func message(fam, kind, code int, data []byte) api.Ip {
	return mended(carry(fam, icmp(fam), slices.Concat([]byte{byte(kind), byte(code), 0, 0, 0x80, 1, 0xff, 2}, data)))
}

// messageSeg is what Parse should tell of it, if it is no error.
func messageSeg(fam, kind, code int, data []byte) api.Seg {
	number := 0
	if fam == 4 && (kind == 8 || kind == 0) || fam == 6 && (kind == 128 || kind == 129) {
		number = 0x8001
	}
	return api.Seg{Tuple: way(fam, icmp(fam), number, number), Type: kind, Code: code, Data: data}
}

// same tells whether two segments are, where Data that is nil or empty is the same.
func same(a, b api.Seg) bool {
	return a.Tuple == b.Tuple && a.Flags == b.Flags && a.Seq == b.Seq && a.Ack == b.Ack && a.Win == b.Win &&
		a.Type == b.Type && a.Code == b.Code && a.Err == b.Err && a.Inner == b.Inner && bytes.Equal(a.Data, b.Data)
}

// taken checks that Parse answers a segment.
func taken(t *testing.T, name string, p api.Ip, want api.Seg) {
	t.Helper()
	s, e := seg.Parse(p)
	if e != api.OK || !same(s, want) {
		t.Errorf("%s: Parse(%v): %v %v, want %v", name, p, s, e, want)
	}
}

// refused checks that Parse answers an error, and nothing beside it.
func refused(t *testing.T, name string, p api.Ip, want api.Errno) {
	t.Helper()
	s, e := seg.Parse(p)
	if e != want || !same(s, api.Seg{}) {
		t.Errorf("%s: Parse(%v): %v %v, want %v", name, p, s, e, want)
	}
}

// P5.2

func TestParseByHand(t *testing.T) {
	p := carry(4, 17, []byte{0, 53, 4, 0, 0, 12, 0xe3, 0x98, 1, 2, 3, 4})
	taken(t, "the chapter's example", p, api.Seg{Tuple: way(4, 17, 53, 1024), Data: []byte{1, 2, 3, 4}})
	p = carry(4, 6, []byte{0, 5, 0, 80, 0, 0, 0, 1, 0, 0, 0, 2, 0x50, 2, 0, 3, 0x9b, 0x85, 0, 0})
	taken(t, "TCP", p, api.Seg{Tuple: way(4, 6, 5, 80), Flags: api.SYN, Seq: 1, Ack: 2, Win: 3})
	p = carry(4, 1, []byte{8, 0, 0xf6, 0xfa, 0, 1, 0, 2, 1, 2})
	taken(t, "ICMP", p, api.Seg{Tuple: way(4, 1, 1, 1), Type: 8, Data: []byte{1, 2}})
	p = api.Ip{Fam: 6, Src: api.Addr{Fam: 6, Lo: 1}, Dst: api.Addr{Fam: 6, Lo: 1}, Proto: 58, Data: []byte{128, 0, 0x7f, 0xb8, 0, 1, 0, 2}}
	taken(t, "ICMP of family 6", p, api.Seg{Tuple: api.Tuple{Fam: 6, Proto: 58, Src: p.Src, Dst: p.Dst, Sport: 1, Dport: 1}, Type: 128})
}

func TestParseAnyHeader(t *testing.T) {
	for _, fam := range families {
		for _, p := range []api.Ip{stream{flags: 16}.in(fam), udp(fam, 0, count(3), nil), message(fam, 200, 9, count(5))} {
			want, e := seg.Parse(p)
			if e != api.OK {
				t.Fatal(fam, p, e)
			}
			p.Frag, p.Id, p.Off, p.More, p.Hop, p.Exts = true, 7, -8, true, -1, []int{44, 0, 300}
			taken(t, "other fields", p, want)
			p.Frag, p.Hop, p.Exts = false, 0, nil
			taken(t, "other fields of no fragment", p, want)
		}
	}
}

func TestParseWrongFamily(t *testing.T) {
	for _, fam := range families {
		for _, p := range []api.Ip{stream{flags: 16}.in(fam), udp(fam, 0, count(3), nil), message(fam, 200, 9, nil), carry(fam, 0, nil)} {
			src, dst := ends(10 - fam)
			for _, wrong := range append([]int{0, 1, 10 - fam}, strange...) {
				q := p
				q.Fam = wrong
				refused(t, "a family", q, api.ErrArg)
				q.Src.Fam, q.Dst.Fam = wrong, wrong
				if wrong != 10-fam {
					refused(t, "a family of all", q, api.ErrArg)
				}
			}
			for _, wrong := range append([]api.Addr{src, dst}, wrongAddrs...) {
				q := p
				q.Src = wrong
				refused(t, "a sender", q, api.ErrArg)
				q = p
				q.Dst = wrong
				refused(t, "a receiver", q, api.ErrArg)
				q.Src = wrong
				refused(t, "both ends", q, api.ErrArg)
			}
		}
	}
	refused(t, "no packet", api.Ip{}, api.ErrArg)
}

func TestParseWrongProto(t *testing.T) {
	for _, fam := range families {
		right := []int{6, 17, icmp(fam)}
		for _, proto := range append([]int{-1, icmp(10 - fam)}, strange...) {
			for _, p := range []api.Ip{stream{flags: 16}.in(fam), udp(fam, 0, count(20), nil), message(fam, 200, 9, nil)} {
				p.Proto = proto
				refused(t, "a protocol", p, api.ErrProto)
				p.Data = nil
				refused(t, "a protocol of nothing", p, api.ErrProto)
			}
		}
		for proto := range 256 {
			if p := carry(fam, proto, nil); slices.Contains(right, proto) {
				refused(t, "a right protocol of nothing", p, api.ErrShort)
			} else {
				refused(t, "a protocol of nothing", p, api.ErrProto)
			}
		}
		other := message(fam, 128, 0, count(4))
		other.Proto = icmp(10 - fam)
		refused(t, "the other family's ICMP", other, api.ErrProto)
	}
}

func TestParseShort(t *testing.T) {
	for _, fam := range families {
		least := map[int]int{6: 20, 17: 8, icmp(fam): 8}
		for proto, n := range least {
			for short := range n {
				refused(t, "bytes 0", carry(fam, proto, make([]byte, short)), api.ErrShort)
				refused(t, "bytes 255", carry(fam, proto, bytes.Repeat([]byte{255}, short)), api.ErrShort)
				refused(t, "bytes of a right one", carry(fam, proto, stream{flags: 16}.in(fam).Data[:short]), api.ErrShort)
			}
		}
		s := stream{flags: 16}
		taken(t, "20 bytes of TCP", s.in(fam), s.seg(fam))
		taken(t, "8 bytes of UDP", udp(fam, 0, nil, nil), udpSeg(fam, nil))
		taken(t, "8 bytes of ICMP", message(fam, 8, 7, nil), messageSeg(fam, 8, 7, nil))
		refused(t, "20 bytes 0 of TCP", carry(fam, 6, make([]byte, 20)), api.ErrHead)
		refused(t, "8 bytes 0 of UDP", carry(fam, 17, make([]byte, 8)), api.ErrLen)
		refused(t, "8 bytes 0 of ICMP", carry(fam, icmp(fam), make([]byte, 8)), api.ErrSum)
	}
}

func TestParseStreamHead(t *testing.T) {
	for _, fam := range families {
		for size := 20; size < 80; size++ {
			for words := range 16 {
				all := count(size - 20)
				s := stream{words: words, flags: 24}
				if words < 5 || words*4 > size {
					s.data = all
					p := s.in(fam)
					p.Data[12] = byte(words<<4 | 15)
					refused(t, "a header", mended(p), api.ErrHead)
					continue
				}
				s.options, s.data = all[:words*4-20], all[words*4-20:]
				taken(t, "a header", s.in(fam), s.seg(fam))
			}
		}
	}
}

func TestParseStreamFlags(t *testing.T) {
	wrong := []int{
		0, 8, 32, 40, // none of SYN, RST and ACK
		1, 9, 33, 41, // FIN alone
		3, 11, 35, 43, 19, 27, 51, 59, // SYN and FIN
		6, 14, 38, 46, 22, 30, 54, 62, // SYN and RST
		7, 15, 39, 47, 23, 31, 55, 63, // all three
		5, 13, 37, 45, // FIN and RST without ACK
	}
	for _, fam := range families {
		for flags := range 64 {
			s := stream{flags: flags, data: count(3)}
			if slices.Contains(wrong, flags) {
				refused(t, "flags", s.in(fam), api.ErrFlags)
			} else {
				taken(t, "flags", s.in(fam), s.seg(fam))
			}
		}
	}
}

func TestParseStreamSum(t *testing.T) {
	for _, fam := range families {
		for _, s := range []stream{{flags: 16}, {flags: 2, options: count(8)}, {flags: 16, data: count(7)}, {flags: 17, options: count(40), data: count(8)}} {
			p := s.in(fam)
			taken(t, "a right sum", p, s.seg(fam))
			wrong := turned(p, 16, 1)
			refused(t, "a check sum", wrong, api.ErrSum)
			wrong.Data[16], wrong.Data[17] = 0, 0
			refused(t, "no check sum", wrong, api.ErrSum)
			p.Src, p.Dst = p.Dst, p.Src
			want := s.seg(fam)
			want.Tuple.Src, want.Tuple.Dst = want.Tuple.Dst, want.Tuple.Src
			taken(t, "the other way round", p, want)
			p.Src.Lo ^= 4
			refused(t, "another sender", p, api.ErrSum)
			p = s.in(fam)
			p.Dst.Lo ^= 4
			refused(t, "another receiver", p, api.ErrSum)
			p = s.in(fam)
			p.Data = append(slices.Clone(p.Data), 0, 0)
			refused(t, "a pseudo header of fewer bytes", p, api.ErrSum)
		}
	}
}

// The pseudo header of family 4 has room for the low 16 bits of the length alone.
func TestParseStreamLong(t *testing.T) {
	for _, fam := range families {
		for _, n := range []int{65515, 65516, 70000, 1 << 17} {
			s := stream{flags: 16, data: count(n)}
			taken(t, "many bytes", s.in(fam), s.seg(fam))
			refused(t, "many bytes, one turned", turned(s.in(fam), n, 1), api.ErrSum)
		}
	}
}

func TestParseUdpLength(t *testing.T) {
	for _, fam := range families {
		for size := range 40 {
			p := carry(fam, 17, slices.Concat(be16(0xfedc, 0xba98, size, 0), count(20)))
			switch {
			case size < 8 || size > 28:
				refused(t, "a length", mended(p), api.ErrLen)
				refused(t, "a length without a check sum", p, api.ErrLen)
			default:
				taken(t, "a length", mended(p), udpSeg(fam, count(20)[:size-8]))
			}
		}
		refused(t, "a length of one byte more", udp(fam, 1, count(4), nil), api.ErrLen)
		taken(t, "a length to the end", udp(fam, 0, count(4), nil), udpSeg(fam, count(4)))
		refused(t, "the greatest length", carry(fam, 17, []byte{1, 2, 3, 4, 255, 255, 0, 0}), api.ErrLen)
		refused(t, "a length that needs its upper byte", carry(fam, 17, []byte{1, 2, 3, 4, 1, 8, 1, 0}), api.ErrLen)
		taken(t, "a UDP of 65535 bytes", udp(fam, 0, count(65527), count(9)), udpSeg(fam, count(65527)))
	}
}

func TestParseUdpTail(t *testing.T) {
	for _, fam := range families {
		for n := range 20 {
			p := udp(fam, 0, count(n), nil)
			for _, tail := range [][]byte{{0}, {1, 2}, bytes.Repeat([]byte{255}, 9), count(70000)} {
				long := p
				long.Data = slices.Concat(p.Data, tail)
				taken(t, "bytes behind", long, udpSeg(fam, count(n)))
				if n > 0 {
					refused(t, "bytes behind, and one turned ahead", turned(long, 8+n-1, 128), api.ErrSum)
				}
			}
		}
	}
}

func TestParseUdpNoSum(t *testing.T) {
	for n := range 9 {
		for _, fam := range families {
			p := udp(fam, 0, count(n), count(3))
			p.Data[6], p.Data[7] = 0, 0
			if fam == 4 {
				taken(t, "no check sum", p, udpSeg(fam, count(n)))
			} else {
				refused(t, "no check sum", p, api.ErrSum)
			}
			p.Data[7] = 1
			refused(t, "a wrong check sum whose upper byte is 0", p, api.ErrSum)
			p.Data[6], p.Data[7] = 1, 0
			refused(t, "a wrong check sum whose lower byte is 0", p, api.ErrSum)
		}
	}
}

// level is a UDP whose bytes but for the check sum sum up to all ones, so that its check sum would be 0.
func level(fam int) api.Ip {
	p := udp(fam, 0, []byte{0, 0}, nil)
	copy(p.Data[8:], p.Data[6:8])
	return p
}

func TestParseUdpLevel(t *testing.T) {
	for _, fam := range families {
		p := level(fam)
		want := udpSeg(fam, p.Data[8:])
		p.Data[6], p.Data[7] = 255, 255
		taken(t, "all ones as a check sum", p, want)
		refused(t, "all ones as a check sum, and a byte turned", turned(p, 8, 1), api.ErrSum)
		p.Data[6], p.Data[7] = 0, 0
		if fam == 4 {
			taken(t, "0 as a check sum", p, want)
		} else {
			refused(t, "0 as a check sum, though that is the sum", p, api.ErrSum)
		}
	}
}

func TestParseUdpSum(t *testing.T) {
	for _, fam := range families {
		p := udp(fam, 0, count(5), nil)
		p.Dst.Lo ^= 1
		refused(t, "another receiver", p, api.ErrSum)
		p = udp(fam, 0, count(5), nil)
		p.Src.Lo ^= 1
		refused(t, "another sender", p, api.ErrSum)
		p = udp(fam, 0, []byte{0, 0}, nil)
		p.Data[5] = 8
		refused(t, "a length of bytes 0 fewer", p, api.ErrSum)
	}
}

func TestParseMessage(t *testing.T) {
	for _, fam := range families {
		for kind := range 256 {
			for _, data := range [][]byte{nil, {0}, count(9)} {
				for _, code := range []int{0, 1, 127, 128, 255} {
					p := message(fam, kind, code, data)
					if seg.IsError(fam, kind) {
						refused(t, "an error about nothing", p, api.ErrHead)
					} else {
						taken(t, "a message", p, messageSeg(fam, kind, code, data))
					}
				}
			}
		}
	}
}

func TestParseMessageSum(t *testing.T) {
	for _, fam := range families {
		for _, kind := range []int{0, 3, 8, 1, 128, 200} {
			p := message(fam, kind, 0, count(9))
			refused(t, "a check sum", turned(p, 2, 1), api.ErrSum)
			refused(t, "one byte less", carry(fam, icmp(fam), p.Data[:16]), api.ErrSum)
		}
	}
	p := message(4, 8, 0, count(4))
	p.Src.Lo, p.Dst.Lo = 77, 78
	want := messageSeg(4, 8, 0, count(4))
	want.Tuple.Src, want.Tuple.Dst = p.Src, p.Dst
	taken(t, "family 4 at other ends", p, want)
	p.Data = append(p.Data, 0, 0)
	want.Data = append(want.Data, 0, 0)
	taken(t, "family 4 of another length", p, want)

	p = message(6, 128, 0, count(4))
	p.Src.Lo ^= 1
	refused(t, "family 6 at other ends", p, api.ErrSum)
	p = message(6, 128, 0, count(4))
	p.Data = append(p.Data, 0, 0)
	refused(t, "family 6 of another length", p, api.ErrSum)
	p = message(6, 128, 0, count(4))
	p.Data[2], p.Data[3] = 0, 0
	binary.BigEndian.PutUint16(p.Data[2:], uint16(65535-plainSum(p.Data)))
	refused(t, "family 6 without the pseudo header", p, api.ErrSum)
	p = message(4, 8, 0, count(4))
	p.Data[2], p.Data[3] = 0, 0
	binary.BigEndian.PutUint16(p.Data[2:], uint16(65535-plainSum(slices.Concat(plainPseudo(4, 1, 12), p.Data))))
	refused(t, "family 4 with a pseudo header", p, api.ErrSum)
}

func TestParseManyBytes(t *testing.T) {
	for _, fam := range families {
		data := count(1<<16 + 5)
		taken(t, "a long message", message(fam, 8, 1, data), messageSeg(fam, 8, 1, data))
		p := carry(fam, 6, bytes.Repeat([]byte{255}, 1<<16))
		refused(t, "a long TCP of ones", p, api.ErrSum)
		refused(t, "a long UDP of ones", carry(fam, 17, bytes.Repeat([]byte{255}, 1<<15)), api.ErrLen)
	}
}

// Which of two errors comes first: each fault of the list, together with each one behind it.

func TestParseOrder(t *testing.T) {
	type fault struct {
		name string
		want api.Errno
		do   func(p *api.Ip)
	}
	inFront := []fault{
		{"a family", api.ErrArg, func(p *api.Ip) { p.Fam = 5 }},
		{"an address", api.ErrArg, func(p *api.Ip) { p.Dst = api.Addr{Fam: 4, Hi: 1} }},
		{"a protocol", api.ErrProto, func(p *api.Ip) { p.Proto = 2 }},
	}
	lists := map[int][]fault{
		6: {
			{"short", api.ErrShort, func(p *api.Ip) { p.Data = p.Data[:19] }},
			{"head", api.ErrHead, func(p *api.Ip) { p.Data[12] = 4 << 4 }},
			{"sum", api.ErrSum, func(p *api.Ip) { p.Data[4]++ }},
			{"flags", api.ErrFlags, func(p *api.Ip) { p.Data[13] |= api.SYN | api.FIN; *p = mended(*p) }},
		},
		17: {
			{"short", api.ErrShort, func(p *api.Ip) { p.Data = p.Data[:7] }},
			{"length", api.ErrLen, func(p *api.Ip) { p.Data[5] = 7 }},
			{"sum", api.ErrSum, func(p *api.Ip) { p.Data[6]++ }},
		},
		0: {
			{"short", api.ErrShort, func(p *api.Ip) { p.Data = p.Data[:7] }},
			{"sum", api.ErrSum, func(p *api.Ip) { p.Data[4]++ }},
			{"inner", api.ErrHead, func(p *api.Ip) { p.Data[0] = 3; *p = mended(*p) }},
		},
	}
	for _, fam := range families {
		starts := map[int]api.Ip{6: stream{flags: 16}.in(fam), 17: udp(fam, 0, count(4), nil), 0: message(fam, 200, 0, count(4))}
		for proto, list := range lists {
			all := slices.Concat(inFront, list)
			for i, first := range all {
				for j, second := range all[i:] {
					// Later faults are put in first: they mend the sum, which an earlier one may break.
					p := turned(starts[proto], 0, 0)
					second.do(&p)
					if j > 0 {
						first.do(&p)
					}
					refused(t, first.name+" ahead of "+second.name, p, first.want)
				}
			}
		}
	}
}

// Flags are looked at behind the sum also where the bytes of both are the same ones.
func TestParseFlagsTurned(t *testing.T) {
	for _, fam := range families {
		for by := 1; by < 256; by++ {
			refused(t, "flags that were turned", turned(stream{flags: 16}.in(fam), 13, byte(by)), api.ErrSum)
		}
	}
}

// R1

func TestParseNothing(t *testing.T) {
	for _, fam := range append([]int{0, 1, 4, 6, 17, 58}, strange...) {
		for _, proto := range append([]int{0, 1, 6, 17, 58}, strange...) {
			for _, data := range [][]byte{nil, {}, {1}, make([]byte, 7), make([]byte, 60), bytes.Repeat([]byte{251}, 60)} {
				s, e := seg.Parse(api.Ip{Fam: fam, Src: api.Addr{Fam: fam}, Dst: api.Addr{Fam: fam}, Proto: proto, Data: data})
				if e == api.OK || !same(s, api.Seg{}) {
					t.Error(fam, proto, data, s, e)
				}
			}
		}
	}
	_, e := seg.Parse(api.Ip{Fam: 4, Src: from4, Dst: to4, Proto: 6, Hop: math.MinInt, Off: math.MinInt, Exts: []int{-1}})
	if e != api.ErrShort {
		t.Error(e)
	}
}

// R4

func TestParseIsTheCallers(t *testing.T) {
	for _, fam := range families {
		packets := []api.Ip{
			stream{flags: 16, options: count(4), data: count(9)}.in(fam), udp(fam, 0, count(9), count(3)),
			message(fam, 8, 0, count(9)), message(fam, 3, 0, about(fam, 17).bytes()),
		}
		for _, p := range packets {
			before := slices.Clone(p.Data)
			s, e := seg.Parse(p)
			if e != api.OK || !bytes.Equal(p.Data, before) {
				t.Fatal(p, s, e)
			}
			data := slices.Clone(s.Data)
			for i := range p.Data {
				p.Data[i] ^= 255
			}
			if !bytes.Equal(s.Data, data) {
				t.Error("Data is the packet's:", fam, p.Proto)
			}
			for i := range p.Data {
				p.Data[i] ^= 255
			}
			for i := range s.Data {
				s.Data[i] ^= 255
			}
			_ = append(s.Data, 1, 2, 3)
			if !bytes.Equal(p.Data, before) {
				t.Error("the packet's bytes are Data's:", fam, p.Proto)
			}
			again := data
			if s, _ := seg.Parse(p); !bytes.Equal(s.Data, again) {
				t.Error("another answer:", fam, p.Proto)
			}
		}
	}
}
