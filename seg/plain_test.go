package seg_test

import (
	"encoding/binary"
	"math/rand"
	"slices"
	"testing"

	"stockade/api"
	"stockade/ip6"
	"stockade/seg"
)

// plainParse is P5.2 in its own words, of a packet at the ordinary ends whose protocol is of its family.
func plainParse(p api.Ip) (api.Seg, api.Errno) {
	b, n := p.Data, len(p.Data)
	no := func(e api.Errno) (api.Seg, api.Errno) { return api.Seg{}, e }
	right := func(b []byte) bool { return plainSum(slices.Concat(ahead(p.Fam, p.Proto, len(b)), b)) == 65535 }
	s := api.Seg{Tuple: way(p.Fam, p.Proto, 0, 0)}
	switch p.Proto {
	case 6:
		if n < 20 {
			return no(api.ErrShort)
		}
		head := int(b[12]) / 16 * 4
		if head < 20 || head > n {
			return no(api.ErrHead)
		}
		if !right(b) {
			return no(api.ErrSum)
		}
		s.Flags = int(b[13]) % 64
		has := func(f int) bool { return s.Flags&f == f }
		if !has(api.SYN) && !has(api.RST) && !has(api.ACK) || has(api.SYN|api.FIN) || has(api.SYN|api.RST) || has(api.FIN) && !has(api.ACK) {
			return no(api.ErrFlags)
		}
		s.Seq, s.Ack, s.Win = binary.BigEndian.Uint32(b[4:]), binary.BigEndian.Uint32(b[8:]), int(binary.BigEndian.Uint16(b[14:]))
		s.Data = b[head:]
	case 17:
		if n < 8 {
			return no(api.ErrShort)
		}
		size := int(binary.BigEndian.Uint16(b[4:]))
		if size < 8 || size > n {
			return no(api.ErrLen)
		}
		none := b[6] == 0 && b[7] == 0
		if none && p.Fam == 6 {
			return no(api.ErrSum)
		}
		if !none && !right(b[:size]) {
			return no(api.ErrSum)
		}
		s.Data = b[8:size]
	default:
		if n < 8 {
			return no(api.ErrShort)
		}
		if !right(b) {
			return no(api.ErrSum)
		}
		s.Type, s.Code, s.Data = int(b[0]), int(b[1]), b[8:]
		if slices.Contains(errorKinds(p.Fam), s.Type) {
			inner, found := plainInner(p.Fam, s.Data)
			if !found {
				return no(api.ErrHead)
			}
			s.Err, s.Inner = true, inner
		}
	}
	s.Tuple.Sport, s.Tuple.Dport = plainPorts(p.Fam, p.Proto, b)
	return s, api.OK
}

// plainPorts are the ports of a way, of what goes that way.
func plainPorts(fam, proto int, b []byte) (int, int) {
	number := func(at int) int { return int(binary.BigEndian.Uint16(b[at:])) }
	switch {
	case proto == 6, proto == 17:
		return number(0), number(2)
	case fam == 4 && proto == 1 && (b[0] == 8 || b[0] == 0), fam == 6 && proto == 58 && (b[0] == 128 || b[0] == 129):
		return number(4), number(4)
	}
	return 0, 0
}

// plainInner is the inner way of an error's Data.
func plainInner(fam int, b []byte) (api.Tuple, bool) {
	if len(b) < 20 || int(b[0])/16 != fam {
		return api.Tuple{}, false
	}
	w := api.Tuple{Fam: fam}
	rest := []byte{}
	if fam == 4 {
		head := int(b[0]) % 16 * 4
		if head < 20 || len(b) < head+8 {
			return api.Tuple{}, false
		}
		w.Src = api.Addr{Fam: 4, Lo: uint64(binary.BigEndian.Uint32(b[12:]))}
		w.Dst = api.Addr{Fam: 4, Lo: uint64(binary.BigEndian.Uint32(b[16:]))}
		w.Proto, rest = int(b[9]), b[head:]
	} else {
		if len(b) < 40 {
			return api.Tuple{}, false
		}
		proto, _, behind, e := ip6.Walk(int(b[6]), b[40:])
		if e != api.OK || len(behind) < 8 {
			return api.Tuple{}, false
		}
		w.Src = api.Addr{Fam: 6, Hi: binary.BigEndian.Uint64(b[8:]), Lo: binary.BigEndian.Uint64(b[16:])}
		w.Dst = api.Addr{Fam: 6, Hi: binary.BigEndian.Uint64(b[24:]), Lo: binary.BigEndian.Uint64(b[32:])}
		w.Proto, rest = proto, behind
	}
	w.Sport, w.Dport = plainPorts(fam, w.Proto, rest)
	return w, true
}

// pick is one of some numbers, by chance.
func pick(r *rand.Rand, numbers ...int) int { return numbers[r.Intn(len(numbers))] }

// noise are up to n bytes, by chance, many of them 0.
func noise(r *rand.Rand, n int) []byte {
	b := make([]byte, r.Intn(n+1))
	for i := range b {
		if r.Intn(2) == 0 {
			b[i] = byte(r.Intn(256))
		}
	}
	return b
}

// chanceInner are the bytes of a packet that an error may be about.
func chanceInner(r *rand.Rand, fam int) []byte {
	proto := pick(r, 1, 6, 17, 58, 47, r.Intn(256))
	in := inner{fam: fam, proto: proto, next: proto, data: slices.Concat([]byte{byte(pick(r, 0, 8, 128, 129, 3))}, noise(r, 20))}
	if r.Intn(8) == 0 {
		in.version = r.Intn(16)
	}
	if r.Intn(3) == 0 {
		in.words, in.options = r.Intn(16), make([]byte, 4*r.Intn(11))
	}
	for range r.Intn(3) * r.Intn(6) {
		in.heads = slices.Concat([]byte{byte(in.next), 0, byte(pick(r, 0, 1, 1)), byte(pick(r, 0, 0, 4))}, make([]byte, 4), in.heads)
		in.next = pick(r, 60, 60, 60, 43, 44, 0)
	}
	b := in.bytes()
	return b[:len(b)-r.Intn(len(b)+1)*r.Intn(2)*r.Intn(2)]
}

// chancePacket is a packet that is nearly right.
func chancePacket(r *rand.Rand) api.Ip {
	fam := pick(r, families...)
	var p api.Ip
	switch r.Intn(4) {
	case 0:
		s := stream{flags: r.Intn(64), options: make([]byte, 4*r.Intn(11)), data: noise(r, 30)}
		if r.Intn(3) == 0 {
			s.words = r.Intn(16)
		}
		p = s.in(fam)
	case 1:
		p = udp(fam, pick(r, 0, 0, 0, 1, -1, -8, 20), noise(r, 30), noise(r, 3))
	case 2:
		p = message(fam, r.Intn(256), r.Intn(256), noise(r, 30))
	case 3:
		p = message(fam, pick(r, errorKinds(fam)...), r.Intn(256), chanceInner(r, fam))
	}
	if r.Intn(6) == 0 {
		p = turned(p, r.Intn(len(p.Data)), byte(r.Intn(256)))
	}
	if r.Intn(10) == 0 {
		at := checkAt(p.Proto)
		p.Data[at], p.Data[at+1] = 0, 0
	}
	if r.Intn(12) == 0 {
		p.Data = p.Data[:r.Intn(len(p.Data))]
	}
	return p
}

// agree checks Parse against its plain reading, and tells the answer.
func agree(t *testing.T, p api.Ip) (api.Seg, api.Errno) {
	t.Helper()
	want, wrong := plainParse(p)
	if wrong == api.OK {
		taken(t, "by chance", p, want)
	} else {
		refused(t, "by chance", p, wrong)
	}
	return want, wrong
}

// P5.2, P5.4

func TestParseByChance(t *testing.T) {
	r := rand.New(rand.NewSource(5))
	met := map[[2]int]int{}
	inners := map[int]int{}
	for range 100000 {
		p := chancePacket(r)
		s, e := agree(t, p)
		met[[2]int{p.Proto, int(e)}]++
		if s.Err {
			inners[s.Inner.Proto]++
		}
	}
	want := map[int][]api.Errno{
		6:  {api.OK, api.ErrShort, api.ErrHead, api.ErrSum, api.ErrFlags},
		17: {api.OK, api.ErrShort, api.ErrLen, api.ErrSum},
		1:  {api.OK, api.ErrShort, api.ErrSum, api.ErrHead},
		58: {api.OK, api.ErrShort, api.ErrSum, api.ErrHead},
	}
	for proto, list := range want {
		for _, e := range list {
			if met[[2]int{proto, int(e)}] < 300 {
				t.Error("too few of", proto, e, met[[2]int{proto, int(e)}])
			}
		}
	}
	for _, proto := range []int{1, 6, 17, 58} {
		if inners[proto] < 500 {
			t.Error("too few inner ways of", proto, inners[proto])
		}
	}
}

func TestBuildByChance(t *testing.T) {
	r := rand.New(rand.NewSource(6))
	for range 30000 {
		fam := pick(r, families...)
		s := api.Seg{Tuple: way(fam, pick(r, 6, 17, icmp(fam)), r.Intn(65536), r.Intn(65536)), Data: noise(r, 40)}
		switch s.Tuple.Proto {
		case 6:
			s.Flags, s.Seq, s.Ack, s.Win = r.Intn(64)|api.ACK, r.Uint32(), r.Uint32(), r.Intn(65536)
			if s.Flags&api.SYN != 0 {
				s.Flags &^= api.FIN | api.RST
			}
		case 1, 58:
			data := s.Data
			for s = messageSeg(fam, 3, 0, data); seg.IsError(fam, s.Type); {
				s = messageSeg(fam, r.Intn(256), r.Intn(256), data)
			}
		}
		whole(t, "by chance", s)
	}
}

func FuzzParse(f *testing.F) {
	r := rand.New(rand.NewSource(7))
	for range 200 {
		p := chancePacket(r)
		f.Add(p.Fam == 6, p.Proto, false, p.Data)
		f.Add(p.Fam == 6, p.Proto, true, p.Data)
	}
	f.Fuzz(func(t *testing.T, six bool, proto int, mend bool, b []byte) {
		fam := 4
		if six {
			fam = 6
		}
		if !slices.Contains([]int{6, 17, icmp(fam)}, proto) {
			refused(t, "a protocol", carry(fam, proto, b), api.ErrProto)
			return
		}
		p := carry(fam, proto, b)
		if mend && len(b) >= checkAt(proto)+2 {
			p = mended(p)
		}
		agree(t, p)
	})
}
