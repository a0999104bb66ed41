package seg_test

import (
	"math"
	"slices"
	"testing"

	"stockade/api"
	"stockade/seg"
)

// inner is a packet that an error is about, written by hand: zero fields stand for those of an ordinary one.
type inner struct {
	fam     int
	version int // 0: fam
	words   int // of family 4; 0: as many as the header has
	options []byte
	next    int // of family 6: the next header
	heads   []byte
	proto   int // what stands in the bytes of family 4
	data    []byte
}

// innerData are bytes behind an inner packet's headers: ports 0xb001 and 0xb002, or an echo's number 0x8005 behind a kind.
func innerData(kind int) []byte {
	if kind < 0 {
		return be16(0xb001, 0xb002, 0xb003, 0xb004)
	}
	return append([]byte{byte(kind), 7}, be16(0x8004, 0x8005, 0x8006)...)
}

// about is an ordinary inner packet of a protocol, whose ends are those of the error in reverse.
func about(fam, proto int) inner {
	return inner{fam: fam, proto: proto, next: proto, data: innerData(-1)}
}

// bytes are the packet's bytes, with ones in what nothing is read from.
func (r inner) bytes() []byte {
	version := r.version
	if version == 0 {
		version = r.fam
	}
	var b []byte
	if r.fam == 4 {
		words := r.words
		if words == 0 {
			words = 5 + len(r.options)/4
		}
		b = []byte{byte(version<<4 | words), 255, 255, 255, 255, 255, 255, 255, 255, byte(r.proto), 255, 255}
		b = slices.Concat(b, bytes4[4:], bytes4[:4], r.options)
	} else {
		b = []byte{byte(version<<4 | 15), 255, 255, 255, 255, 255, byte(r.next), 255}
		b = slices.Concat(b, bytes6[16:], bytes6[:16], r.heads)
	}
	return append(b, r.data...)
}

// innerWay is the way of an ordinary inner packet.
func innerWay(fam, proto, sport, dport int) api.Tuple {
	w := way(fam, proto, sport, dport)
	w.Src, w.Dst = w.Dst, w.Src
	return w
}

// errorKinds are the Types that are errors' in a family.
func errorKinds(fam int) []int {
	return map[int][]int{4: {3, 11, 12}, 6: {1, 2, 3, 4}}[fam]
}

// told checks that errors of all kinds about some bytes tell an inner way.
func told(t *testing.T, name string, fam int, b []byte, want api.Tuple) {
	t.Helper()
	for _, kind := range errorKinds(fam) {
		s := messageSeg(fam, kind, 200, b)
		s.Err, s.Inner = true, want
		taken(t, name, message(fam, kind, 200, b), s)
	}
}

// untold checks that errors of all kinds about some bytes are refused.
func untold(t *testing.T, name string, fam int, b []byte) {
	t.Helper()
	for _, kind := range errorKinds(fam) {
		refused(t, name, message(fam, kind, 200, b), api.ErrHead)
	}
}

// P5.2, of errors

func TestInnerByHand(t *testing.T) {
	b := []byte{
		0x45, 0, 0, 32, 0, 0, 0, 0, 64, 17, 0, 0, 192, 168, 1, 2, 8, 8, 4, 4,
		0x30, 0x39, 0, 53, 0, 12, 0, 0, 1, 2, 3, 4,
	}
	w := api.Tuple{Fam: 4, Proto: 17, Src: api.Addr{Fam: 4, Lo: 0xc0a80102}, Dst: api.Addr{Fam: 4, Lo: 0x08080404}, Sport: 12345, Dport: 53}
	told(t, "a UDP of family 4", 4, b, w)
	b = slices.Concat([]byte{0x60, 0, 0, 0, 0, 16, 60, 64}, bytes6, []byte{6, 0, 1, 4, 0, 0, 0, 0}, []byte{1, 0, 0, 80, 0, 0, 0, 0})
	told(t, "a TCP of family 6 behind a header", 6, b, way(6, 6, 256, 80))
}

func TestInnerProtos(t *testing.T) {
	walked := []int{0, 43, 44, 60}
	for _, fam := range families {
		for proto := range 256 {
			if fam == 6 && slices.Contains(walked, proto) {
				continue
			}
			sport, dport := 0, 0
			if proto == 6 || proto == 17 {
				sport, dport = 0xb001, 0xb002
			}
			r := about(fam, proto)
			told(t, "8 bytes behind", fam, r.bytes(), innerWay(fam, proto, sport, dport))
			r.data = append(r.data, count(30)...)
			told(t, "more bytes behind", fam, r.bytes(), innerWay(fam, proto, sport, dport))
		}
	}
}

func TestInnerEchoes(t *testing.T) {
	echoes := map[int][]int{4: {0, 8}, 6: {128, 129}}
	for _, fam := range families {
		for kind := range 256 {
			r := about(fam, icmp(fam))
			r.data = innerData(kind)
			number := 0
			if slices.Contains(echoes[fam], kind) {
				number = 0x8005
			}
			told(t, "a message", fam, r.bytes(), innerWay(fam, icmp(fam), number, number))
			r.proto, r.next = icmp(10-fam), icmp(10-fam)
			told(t, "a message of the other family's ICMP", fam, r.bytes(), innerWay(fam, icmp(10-fam), 0, 0))
		}
	}
}

func TestInnerVersion(t *testing.T) {
	for _, fam := range families {
		for version := range 16 {
			r := about(fam, 17)
			b := append(r.bytes(), count(60)...)
			b[0] = byte(version<<4 | 5)
			if version == fam {
				told(t, "its version", fam, b, innerWay(fam, 17, 0xb001, 0xb002))
			} else {
				untold(t, "a version", fam, b)
			}
		}
		untold(t, "the other family's packet", fam, append(about(10-fam, 17).bytes(), count(60)...))
	}
}

func TestInnerShort(t *testing.T) {
	for _, fam := range families {
		b := about(fam, 17).bytes()
		told(t, "whole", fam, b, innerWay(fam, 17, 0xb001, 0xb002))
		for n := range len(b) {
			untold(t, "short", fam, b[:n])
			untold(t, "bytes 0", fam, make([]byte, n))
		}
		untold(t, "nothing", fam, nil)
	}
}

func TestInnerHead4(t *testing.T) {
	for words := range 16 {
		for size := range 80 {
			r := about(4, 17)
			r.words, r.options = words, count(40)
			b := append(r.bytes(), count(20)...)[:20+size]
			switch {
			case words == 0: // stands for those that the header has
				b[0] = 4 << 4
				untold(t, "no words", 4, b)
			case words < 5 || len(b) < words*4+8:
				untold(t, "a header", 4, b)
			default:
				at := words * 4
				sport, dport := int(b[at])<<8|int(b[at+1]), int(b[at+2])<<8|int(b[at+3])
				told(t, "a header", 4, b, innerWay(4, 17, sport, dport))
			}
		}
	}
}

func TestInnerHeads6(t *testing.T) {
	for _, data := range [][]byte{innerData(-1), slices.Concat(innerData(-1), count(9))} {
		right := []inner{
			{next: 60, heads: []byte{17, 0, 1, 4, 0, 0, 0, 0}},
			{next: 60, heads: slices.Concat([]byte{43, 1, 1, 12}, make([]byte, 12), []byte{17, 0, 1, 0, 9, 9, 9, 9})},
			{next: 43, heads: slices.Concat([]byte{60, 0, 2, 0, 9, 9, 9, 9}, []byte{17, 0, 0, 0, 0, 0, 0, 0})},
			{next: 60, heads: slices.Concat(slices.Repeat([]byte{60, 0, 0, 0, 0, 0, 0, 0}, 7), []byte{17, 0, 0, 0, 0, 0, 0, 0})},
		}
		for _, r := range right {
			r.fam, r.data = 6, data
			told(t, "headers", 6, r.bytes(), innerWay(6, 17, 0xb001, 0xb002))
		}
		wrong := []inner{
			{next: 0, heads: []byte{17, 0, 1, 4, 0, 0, 0, 0}},
			{next: 44, heads: []byte{17, 0, 0, 0, 0, 0, 0, 0}},
			{next: 44, heads: []byte{17, 0, 0, 1, 0, 0, 0, 0}},
			{next: 43, heads: []byte{17, 0, 0, 0, 0, 0, 0, 0}},
			{next: 43, heads: []byte{17, 0, 2, 1, 0, 0, 0, 0}},
			{next: 60, heads: []byte{17, 0, 64, 4, 0, 0, 0, 0}},
			{next: 60, heads: []byte{17, 0, 1, 5, 0, 0, 0, 0}},
			{next: 60, heads: []byte{17, 99, 0, 0, 0, 0, 0, 0}},
			{next: 60, heads: slices.Concat(slices.Repeat([]byte{60, 0, 0, 0, 0, 0, 0, 0}, 8), []byte{17, 0, 0, 0, 0, 0, 0, 0})},
		}
		for _, r := range wrong {
			r.fam, r.data = 6, data
			untold(t, "headers", 6, r.bytes())
		}
	}
	r := inner{fam: 6, next: 60, heads: []byte{17, 0, 1, 4, 0, 0, 0, 0}, data: innerData(-1)[:7]}
	untold(t, "7 bytes behind a header", 6, r.bytes())
	r = inner{fam: 6, next: 60, heads: []byte{60, 0, 0, 0, 0, 0, 0, 0}, data: innerData(-1)[:7]}
	untold(t, "a header that is cut off", 6, r.bytes())
	r = inner{fam: 6, next: 60, heads: []byte{58, 0, 0, 0, 0, 0, 0, 0}, data: innerData(129)}
	told(t, "an echo behind a header", 6, r.bytes(), innerWay(6, 58, 0x8005, 0x8005))
}

// Only a Type that is an error's in the packet's own family has an inner way.
func TestInnerOfNoError(t *testing.T) {
	for _, fam := range families {
		b := about(fam, 17).bytes()
		for kind := range 256 {
			if !slices.Contains(errorKinds(fam), kind) {
				taken(t, "no error", message(fam, kind, 0, b), messageSeg(fam, kind, 0, b))
			}
		}
	}
}

// What stands in an inner packet may be an address that no sender has, and is told as it stands.
func TestInnerEnds(t *testing.T) {
	b := about(4, 6).bytes()
	copy(b[12:], []byte{0, 0, 0, 0, 255, 255, 255, 255})
	w := api.Tuple{Fam: 4, Proto: 6, Src: api.Addr{Fam: 4}, Dst: api.Addr{Fam: 4, Lo: math.MaxUint32}, Sport: 0xb001, Dport: 0xb002}
	told(t, "the least and the greatest", 4, b, w)
	b = about(6, 6).bytes()
	copy(b[8:], slices.Concat(make([]byte, 16), slices.Repeat([]byte{255}, 16)))
	w = api.Tuple{Fam: 6, Proto: 6, Src: api.Addr{Fam: 6}, Dst: api.Addr{Fam: 6, Hi: math.MaxUint64, Lo: math.MaxUint64}, Sport: 0xb001, Dport: 0xb002}
	told(t, "the least and the greatest", 6, b, w)
}

// A wrong sum comes ahead of a missing inner way, and a right inner way does not hide it.
func TestInnerSum(t *testing.T) {
	for _, fam := range families {
		for _, kind := range errorKinds(fam) {
			p := message(fam, kind, 0, about(fam, 17).bytes())
			for at := range p.Data {
				refused(t, "a byte turned", turned(p, at, 1), api.ErrSum)
			}
			s, e := seg.Parse(turned(message(fam, kind, 0, nil), 5, 1))
			if e != api.ErrSum || s.Err {
				t.Error(fam, kind, s, e)
			}
		}
	}
}
