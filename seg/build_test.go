package seg_test

import (
	"bytes"
	"encoding/binary"
	"math"
	"slices"
	"testing"

	"stockade/api"
	"stockade/seg"
)

// ordinary is a segment of a protocol that Parse takes once it was built.
func ordinary(fam, proto int) api.Seg {
	s := api.Seg{Tuple: way(fam, proto, 0xfedc, 0xba98), Data: count(5)}
	switch proto {
	case 6:
		s.Flags, s.Seq, s.Ack, s.Win = api.ACK|api.PSH, 0x87654321, 0xfeedbeef, 0xabcd
	case 1:
		s.Type, s.Code, s.Tuple.Dport = 8, 200, 0xfedc
	case 58:
		s.Type, s.Code, s.Tuple.Dport = 129, 200, 0xfedc
	}
	return s
}

// but is a segment, but for what change does.
func but(s api.Seg, change func(s *api.Seg)) api.Seg {
	change(&s)
	return s
}

// each is what is asked of an ordinary segment of each family and protocol.
func each(ask func(s api.Seg)) {
	for _, fam := range families {
		for _, proto := range []int{6, 17, icmp(fam)} {
			ask(ordinary(fam, proto))
		}
	}
}

// carrying is the packet that carries a segment's bytes.
func carrying(s api.Seg, b []byte) api.Ip {
	return api.Ip{Fam: s.Tuple.Fam, Src: s.Tuple.Src, Dst: s.Tuple.Dst, Proto: s.Tuple.Proto, Hop: 1, Data: b}
}

// plainBuild is P5.3's bytes in its own words, of a segment at the ordinary ends.
func plainBuild(s api.Seg) []byte {
	w := s.Tuple
	var b []byte
	switch w.Proto {
	case 6:
		b = be16(w.Sport, w.Dport)
		b = binary.BigEndian.AppendUint32(b, s.Seq)
		b = binary.BigEndian.AppendUint32(b, s.Ack)
		b = append(b, 0x50, byte(s.Flags))
		b = append(b, be16(s.Win, 0, 0)...)
	case 17:
		b = be16(w.Sport, w.Dport, 8+len(s.Data), 0)
	default:
		number := 0
		switch {
		case w.Fam == 4 && (s.Type == 8 || s.Type == 0), w.Fam == 6 && (s.Type == 128 || s.Type == 129):
			number = w.Sport
		}
		b = append([]byte{byte(s.Type), byte(s.Code), 0, 0}, be16(number, 0)...)
	}
	return mended(carry(w.Fam, w.Proto, append(b, s.Data...))).Data
}

// built checks that Build writes a segment at the ordinary ends.
func built(t *testing.T, name string, s api.Seg) []byte {
	t.Helper()
	b, e := seg.Build(s)
	if e != api.OK || !bytes.Equal(b, plainBuild(s)) {
		t.Errorf("%s: Build(%v): %v %v", name, s, b, e)
	}
	return b
}

// whole checks that Build writes a segment, and that Parse reads it again (P5.4).
func whole(t *testing.T, name string, s api.Seg) {
	t.Helper()
	taken(t, name, carrying(s, built(t, name, s)), s)
}

// unbuilt checks that Build answers ErrArg, and no bytes.
func unbuilt(t *testing.T, name string, s api.Seg) {
	t.Helper()
	if b, e := seg.Build(s); e != api.ErrArg || len(b) != 0 {
		t.Errorf("%s: Build(%v): %v %v", name, s, b, e)
	}
}

// P5.3

func TestBuildByHand(t *testing.T) {
	check := func(name string, s api.Seg, want []byte) {
		t.Helper()
		if b, e := seg.Build(s); e != api.OK || !bytes.Equal(b, want) {
			t.Errorf("%s: %v %v, want %v", name, b, e, want)
		}
	}
	check("the chapter's example", api.Seg{Tuple: way(4, 17, 53, 1024), Data: []byte{1, 2, 3, 4}}, []byte{0, 53, 4, 0, 0, 12, 0xe3, 0x98, 1, 2, 3, 4})
	s := api.Seg{Tuple: way(4, 6, 5, 80), Flags: api.SYN, Seq: 1, Ack: 2, Win: 3}
	check("TCP", s, []byte{0, 5, 0, 80, 0, 0, 0, 1, 0, 0, 0, 2, 0x50, 2, 0, 3, 0x9b, 0x85, 0, 0})
	s = api.Seg{Tuple: way(4, 1, 1, 1), Type: 8, Data: []byte{1, 2}}
	check("an echo", s, []byte{8, 0, 0xf6, 0xfc, 0, 1, 0, 0, 1, 2})
	s = api.Seg{Tuple: way(4, 1, 1, 1), Type: 13, Data: []byte{1, 2}}
	check("no echo", s, []byte{13, 0, 0xf1, 0xfd, 0, 0, 0, 0, 1, 2})
	one := api.Addr{Fam: 6, Lo: 1}
	s = api.Seg{Tuple: api.Tuple{Fam: 6, Proto: 58, Src: one, Dst: one, Sport: 3, Dport: 4}, Type: 128}
	check("an echo of family 6", s, []byte{128, 0, 0x7f, 0xb8, 0, 3, 0, 0})
}

// What another protocol has is not written, but for its numbers' bounds; nor is what Parse tells of errors.
func TestBuildOthersFields(t *testing.T) {
	each(func(s api.Seg) {
		want := built(t, "ordinary", s)
		s.Err, s.Inner = true, innerWay(4, 17, -1, 1<<20)
		if s.Tuple.Proto != 6 {
			s.Flags, s.Seq, s.Ack, s.Win = 63, 1, 2, 65535
		}
		if s.Tuple.Proto == 6 || s.Tuple.Proto == 17 {
			s.Type, s.Code = 255, 255
		}
		if b, e := seg.Build(s); e != api.OK || !bytes.Equal(b, want) {
			t.Error(s, b, e)
		}
	})
}

// edge is a field's greatest number.
type edge struct {
	name string
	most int
	put  func(s *api.Seg, n int)
}

var edges = []edge{
	{"Sport", 65535, func(s *api.Seg, n int) { s.Tuple.Sport = n }},
	{"Dport", 65535, func(s *api.Seg, n int) { s.Tuple.Dport = n }},
	{"Win", 65535, func(s *api.Seg, n int) { s.Win = n }},
	{"Type", 255, func(s *api.Seg, n int) { s.Type = n }},
	{"Code", 255, func(s *api.Seg, n int) { s.Code = n }},
	{"Flags", 63, func(s *api.Seg, n int) { s.Flags = n }},
}

func TestBuildNumbers(t *testing.T) {
	each(func(s api.Seg) {
		for _, g := range edges {
			for _, n := range []int{0, 1, g.most / 2, g.most - 1, g.most} {
				built(t, g.name, but(s, func(s *api.Seg) { g.put(s, n) }))
			}
			for _, n := range []int{-1, -g.most, math.MinInt, g.most + 1, g.most * 2, 65536, 1 << 32, 1<<32 + 1, math.MaxInt} {
				unbuilt(t, g.name, but(s, func(s *api.Seg) { g.put(s, n) }))
			}
		}
		built(t, "all at 0", api.Seg{Tuple: way(s.Tuple.Fam, s.Tuple.Proto, 0, 0)})
		all := but(s, func(s *api.Seg) {
			for _, g := range edges {
				g.put(s, g.most)
			}
			s.Seq, s.Ack = math.MaxUint32, math.MaxUint32
		})
		built(t, "all at their greatest", all)
	})
}

func TestBuildWrongEnds(t *testing.T) {
	each(func(s api.Seg) {
		src, dst := ends(10 - s.Tuple.Fam)
		for _, wrong := range append([]api.Addr{src, dst}, wrongAddrs...) {
			unbuilt(t, "a sender", but(s, func(s *api.Seg) { s.Tuple.Src = wrong }))
			unbuilt(t, "a receiver", but(s, func(s *api.Seg) { s.Tuple.Dst = wrong }))
			unbuilt(t, "both ends", but(s, func(s *api.Seg) { s.Tuple.Src, s.Tuple.Dst = wrong, wrong }))
		}
		for _, fam := range append([]int{0, 1, 10 - s.Tuple.Fam}, strange...) {
			unbuilt(t, "a family", but(s, func(s *api.Seg) { s.Tuple.Fam = fam }))
		}
		for _, fam := range []int{0, 1, 2, 3, 5, 7, -4, -6, math.MinInt, math.MaxInt} {
			wrong := but(s, func(s *api.Seg) { s.Tuple.Fam, s.Tuple.Src.Fam, s.Tuple.Dst.Fam = fam, fam, fam })
			unbuilt(t, "a family of all", wrong)
		}
	})
	unbuilt(t, "no segment", api.Seg{})
}

func TestBuildWrongProto(t *testing.T) {
	each(func(s api.Seg) {
		right := []int{6, 17, icmp(s.Tuple.Fam)}
		for proto := -300; proto < 600; proto++ {
			if !slices.Contains(right, proto) {
				unbuilt(t, "a protocol", but(s, func(s *api.Seg) { s.Tuple.Proto = proto }))
			}
		}
		for _, proto := range strange {
			unbuilt(t, "a strange protocol", but(s, func(s *api.Seg) { s.Tuple.Proto = proto }))
		}
		unbuilt(t, "the other family's ICMP", but(s, func(s *api.Seg) { s.Tuple.Proto = icmp(10 - s.Tuple.Fam) }))
	})
}

func TestBuildDataLength(t *testing.T) {
	each(func(s api.Seg) {
		for _, n := range []int{0, 1, 2, 7, 1500, 64999, 65000} {
			whole(t, "Data", but(s, func(s *api.Seg) { s.Data = count(n) }))
		}
		for _, n := range []int{65001, 65002, 65535, 65536, 1 << 17} {
			unbuilt(t, "Data", but(s, func(s *api.Seg) { s.Data = count(n) }))
		}
		whole(t, "no Data", but(s, func(s *api.Seg) { s.Data = nil }))
		whole(t, "empty Data", but(s, func(s *api.Seg) { s.Data = []byte{} }))
	})
}

// A check sum of 0 is written as 65535 in UDP, and as 0 in the others.
func TestBuildZeroSum(t *testing.T) {
	each(func(s api.Seg) {
		s.Data = []byte{0, 0}
		at := checkAt(s.Tuple.Proto)
		b := built(t, "bytes 0", s)
		s.Data = slices.Clone(b[at : at+2])
		want := []byte{0, 0}
		if s.Tuple.Proto == 17 {
			want = []byte{255, 255}
		}
		b = built(t, "a sum of all ones", s)
		if !bytes.Equal(b[at:at+2], want) {
			t.Error(s, b)
		}
		taken(t, "a sum of all ones", carrying(s, b), s)
	})
}

func TestBuildEveryCheckSum(t *testing.T) {
	for n := range 65536 {
		s := api.Seg{Tuple: way(4, 17, 1, 2), Data: be16(n)}
		b, e := seg.Build(s)
		if e != api.OK || b[6] == 0 && b[7] == 0 || plainSum(slices.Concat(plainPseudo(4, 17, 10), b)) != 65535 {
			t.Fatal(n, b, e)
		}
	}
}

// P5.4

func TestParseOfBuild(t *testing.T) {
	each(func(s api.Seg) {
		for n := range 12 {
			whole(t, "ordinary", but(s, func(s *api.Seg) { s.Data = count(n) }))
		}
		for _, n := range []int{0, 1, 255, 256, 65535} {
			if s.Tuple.Proto == 6 || s.Tuple.Proto == 17 {
				whole(t, "a sender's port", but(s, func(s *api.Seg) { s.Tuple.Sport = n }))
				whole(t, "a receiver's port", but(s, func(s *api.Seg) { s.Tuple.Dport = n }))
			} else {
				whole(t, "an echo's number", but(s, func(s *api.Seg) { s.Tuple.Sport, s.Tuple.Dport = n, n }))
			}
			if s.Tuple.Proto == 6 {
				whole(t, "Win", but(s, func(s *api.Seg) { s.Win = n }))
			}
		}
		s.Tuple.Src, s.Tuple.Dst = s.Tuple.Dst, s.Tuple.Src
		b, e := seg.Build(s)
		taken(t, "the other way round", carrying(s, b), s)
		if e != api.OK {
			t.Error(s, e)
		}
	})
}

func TestParseOfBuildFlags(t *testing.T) {
	for _, fam := range families {
		for flags := range 64 {
			s := but(ordinary(fam, 6), func(s *api.Seg) { s.Flags = flags })
			fin, syn, rst, ack := flags&1 != 0, flags&2 != 0, flags&4 != 0, flags&16 != 0
			if !syn && !rst && !ack || syn && (fin || rst) || fin && !ack {
				refused(t, "flags", carrying(s, built(t, "flags", s)), api.ErrFlags)
			} else {
				whole(t, "flags", s)
			}
		}
	}
}

func TestParseOfBuildMessages(t *testing.T) {
	for _, fam := range families {
		for kind := range 256 {
			s := messageSeg(fam, kind, kind^255, count(kind%5))
			if !seg.IsError(fam, kind) {
				whole(t, "a message", s)
				continue
			}
			refused(t, "an error about nothing", carrying(s, built(t, "an error", s)), api.ErrHead)
			s.Data = about(fam, 17).bytes()
			p := carrying(s, built(t, "an error", s))
			s.Err, s.Inner = true, innerWay(fam, 17, 0xb001, 0xb002)
			taken(t, "an error", p, s)
		}
	}
}

// Ports that are not those of a message's way are lost.
func TestParseOfBuildOtherPorts(t *testing.T) {
	for _, fam := range families {
		for kind := range 256 {
			if seg.IsError(fam, kind) {
				continue
			}
			s := messageSeg(fam, kind, 0, nil)
			want := s
			s.Tuple.Dport = 99
			if s.Tuple.Sport == 0 {
				s.Tuple.Sport = 98
			}
			taken(t, "other ports", carrying(s, built(t, "other ports", s)), want)
		}
	}
}

// P5.5

func TestDataTurned(t *testing.T) {
	each(func(s api.Seg) {
		for n := range 6 {
			s.Data = count(n + 1)
			b := built(t, "ordinary", s)
			for at := len(b) - len(s.Data); at < len(b); at++ {
				for by := 1; by < 256; by++ {
					refused(t, "a byte turned", turned(carrying(s, b), at, byte(by)), api.ErrSum)
				}
			}
		}
	})
}

// No byte of these packets' Data can be turned, the headers' among them. (A UDP's check sum and length could be such that one may: 0 says that nothing was summed, and a length what is.)
func TestByteTurned(t *testing.T) {
	each(func(s api.Seg) {
		b := built(t, "ordinary", s)
		for at := range b {
			for by := 1; by < 256; by++ {
				p := turned(carrying(s, b), at, byte(by))
				if got, e := seg.Parse(p); e == api.OK {
					t.Error(s, at, by, got)
				}
			}
		}
	})
	for at := 8; at < 12; at++ {
		p := carry(4, 17, []byte{0, 53, 4, 0, 0, 12, 0, 0, 1, 2, 3, 4})
		p = turned(p, at, 255)
		taken(t, "a UDP without a check sum", p, api.Seg{Tuple: way(4, 17, 53, 1024), Data: p.Data[8:]})
	}
}

// R4

func TestBuildIsTheCallers(t *testing.T) {
	each(func(s api.Seg) {
		room := append(make([]byte, 0, 64), s.Data...)
		before := slices.Clone(room[:64])
		s.Data = room
		b := built(t, "Data with room behind", s)
		want := slices.Clone(b)
		if !bytes.Equal(room[:64], before) {
			t.Error("Build writes into Data:", room[:64])
		}
		for i := range room {
			room[i] ^= 255
		}
		if !bytes.Equal(b, want) {
			t.Error("the bytes are Data's:", b)
		}
		for i := range b {
			b[i] ^= 255
		}
		_ = append(b, 1, 2, 3)
		for i := range room {
			room[i] ^= 255
		}
		if !bytes.Equal(room[:64], before) {
			t.Error("Data is the bytes':", room[:64])
		}
		built(t, "again", s)
	})
}
