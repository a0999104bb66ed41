package ip6_test

import (
	"bytes"
	"encoding/binary"
	"math"
	"math/rand"
	"slices"
	"testing"

	"stockade/api"
	"stockade/ip6"
)

// plainBuild is P4.3's packet in its own words.
func plainBuild(p api.Ip) []byte {
	b := make([]byte, 40, 48+len(p.Data))
	b[0] = 0x60
	b[6], b[7] = byte(p.Proto), byte(p.Hop)
	binary.BigEndian.PutUint64(b[8:], p.Src.Hi)
	binary.BigEndian.PutUint64(b[16:], p.Src.Lo)
	binary.BigEndian.PutUint64(b[24:], p.Dst.Hi)
	binary.BigEndian.PutUint64(b[32:], p.Dst.Lo)
	if p.Frag {
		b[6] = 44
		b = append(b, byte(p.Proto), 0)
		place := p.Off / 8 << 3
		if p.More {
			place++
		}
		b = binary.BigEndian.AppendUint16(b, uint16(place))
		b = binary.BigEndian.AppendUint32(b, p.Id)
	}
	b = append(b, p.Data...)
	binary.BigEndian.PutUint16(b[4:], uint16(len(b)-40))
	return b
}

// bare is a packet as Parse tells of it, once it was built.
func bare(p api.Ip) api.Ip {
	if p.Frag {
		p.Exts = []int{44}
	} else {
		p.Id, p.Off, p.More = 0, 0, false
	}
	return p
}

// written checks that Build writes a packet.
func written(t *testing.T, name string, p api.Ip) []byte {
	t.Helper()
	b, e := ip6.Build(p)
	if e != api.OK || !bytes.Equal(b, plainBuild(p)) {
		t.Errorf("%s: Build(%v): %v %v", name, p, b, e)
	}
	return b
}

// built checks that Build writes a packet, and that Parse reads it again (P4.4).
func built(t *testing.T, name string, p api.Ip) {
	t.Helper()
	q, e := ip6.Parse(written(t, name, p))
	if e != api.OK || !same(q, bare(p)) {
		t.Errorf("%s: Parse of Build(%v): %v %v", name, p, q, e)
	}
}

// unbuilt checks that Build answers ErrArg, and no bytes.
func unbuilt(t *testing.T, name string, p api.Ip) {
	t.Helper()
	if b, e := ip6.Build(p); e != api.ErrArg || len(b) != 0 {
		t.Errorf("%s: Build(%v): %v %v", name, p, b, e)
	}
}

// but is the ordinary packet, but for what change does.
func but(change func(p *api.Ip)) api.Ip {
	p := ordinary()
	change(&p)
	return p
}

// piece is a fragment of the ordinary packet.
func piece(off int, more bool, data []byte) api.Ip {
	return but(func(p *api.Ip) { p.Frag, p.Id, p.Off, p.More, p.Data = true, 0x12345678, off, more, data })
}

// P4.3, P4.4

func TestBuild(t *testing.T) {
	b, e := ip6.Build(ordinary())
	want := slices.Concat([]byte{0x60, 0, 0, 0, 0, 4, 17, 64}, ends, []byte{1, 2, 3, 4})
	if e != api.OK || !bytes.Equal(b, want) {
		t.Error("a whole packet:", b, e)
	}
	b, e = ip6.Build(piece(8, true, count(8)))
	want = slices.Concat([]byte{0x60, 0, 0, 0, 0, 16, 44, 64}, ends, []byte{17, 0, 0, 9, 0x12, 0x34, 0x56, 0x78, 1, 2, 3, 4, 5, 6, 7, 8})
	if e != api.OK || !bytes.Equal(b, want) {
		t.Error("a fragment:", b, e)
	}
}

func TestBuildNumbers(t *testing.T) {
	for n := range 256 {
		p, q := but(func(p *api.Ip) { p.Proto = n }), piece(8, false, count(3))
		q.Proto = n
		if n == 0 || n == 43 || n == 44 || n == 60 {
			written(t, "Proto", p)
		} else {
			built(t, "Proto", p)
		}
		built(t, "Proto of a fragment", q)
		if n > 0 {
			built(t, "Hop", but(func(p *api.Ip) { p.Hop = n }))
		}
	}
	for _, n := range []int{math.MinInt, math.MinInt + 17, -256, -255, -1, 256, 257, 256 + 17, 65536, 1<<32 + 17, math.MaxInt} {
		for _, p := range []api.Ip{ordinary(), piece(8, true, count(8))} {
			proto, hop := p, p
			proto.Proto, hop.Hop = n, n
			unbuilt(t, "Proto", proto)
			unbuilt(t, "Hop", hop)
		}
	}
	unbuilt(t, "no hops", but(func(p *api.Ip) { p.Hop = 0 }))
	for _, n := range []int{math.MinInt, -6, 0, 4, 5, 7, 1<<32 + 6, math.MaxInt} {
		unbuilt(t, "Fam", but(func(p *api.Ip) { p.Fam = n }))
	}
	unbuilt(t, "nothing", api.Ip{})
}

func TestBuildAddrs(t *testing.T) {
	for _, a := range []api.Addr{{Fam: 6}, {Fam: 6, Lo: 1}, {Fam: 6, Hi: 1}, {Fam: 6, Hi: math.MaxUint64, Lo: math.MaxUint64}, {Fam: 6, Hi: 0xfe80 << 48, Lo: 1 << 63}} {
		built(t, "Src", but(func(p *api.Ip) { p.Src = a }))
		built(t, "Dst", but(func(p *api.Ip) { p.Dst = a }))
	}
	for _, a := range []api.Addr{{}, {Lo: 1}, {Hi: 1}, {Fam: 4}, {Fam: 4, Lo: 0x0a000001}, {Fam: 4, Lo: 1 << 32}, {Fam: 4, Hi: 1}, {Fam: 5, Lo: 1}, {Fam: 7, Lo: 1}, {Fam: -6, Lo: 1}, {Fam: 1<<32 + 6}} {
		unbuilt(t, "Src", but(func(p *api.Ip) { p.Src = a }))
		unbuilt(t, "Dst", but(func(p *api.Ip) { p.Dst = a }))
		unbuilt(t, "both", but(func(p *api.Ip) { p.Src, p.Dst = a, a }))
	}
	four := api.Addr{Fam: 4, Lo: 1}
	unbuilt(t, "all of family 4", but(func(p *api.Ip) { p.Fam, p.Src, p.Dst = 4, four, four }))
}

func TestBuildExts(t *testing.T) {
	for _, exts := range [][]int{nil, {}} {
		p := piece(8, true, count(8))
		p.Exts = exts
		built(t, "no Exts of a fragment", p)
		built(t, "no Exts", but(func(p *api.Ip) { p.Exts = exts }))
	}
	p := piece(8, true, count(8))
	p.Exts = []int{44}
	built(t, "just 44 of a fragment", p)
	unbuilt(t, "just 44", but(func(p *api.Ip) { p.Exts = []int{44} }))
	for _, exts := range [][]int{{0}, {43}, {60}, {45}, {-44}, {256 + 44}, {44, 44}, {60, 44}, {44, 60}, {0, 44}, make([]int, 9)} {
		p.Exts = exts
		unbuilt(t, "Exts of a fragment", p)
		unbuilt(t, "Exts", but(func(p *api.Ip) { p.Exts = exts }))
	}
}

func TestBuildData(t *testing.T) {
	for _, n := range []int{0, 1, 2, 7, 8, 9, 255, 256, 64999, 65000} {
		built(t, "Data", but(func(p *api.Ip) { p.Data = count(n) }))
		built(t, "Data of a fragment", piece(8, false, count(n)))
	}
	built(t, "no Data", but(func(p *api.Ip) { p.Data = nil }))
	built(t, "as much Data as may be, and More", piece(0, true, count(65000)))
	for _, n := range []int{65001, 65008, 65487, 65488, 65495, 65496, 65535, 65536, 65536 + 8, 1 << 17} {
		unbuilt(t, "Data", but(func(p *api.Ip) { p.Data = count(n) }))
		unbuilt(t, "Data of a fragment", piece(8, false, count(n)))
		unbuilt(t, "Data of the first fragment", piece(0, true, count(n)))
	}
}

func TestBuildFragment(t *testing.T) {
	for _, off := range []int{0, 8, 16, 256, 32768, 65512, 65520} {
		built(t, "More", piece(off, true, count(8)))
		if off > 0 {
			built(t, "More and no Data", piece(off, true, nil))
			built(t, "the last one", piece(off, false, count(3)))
			built(t, "the last one, a multiple of 8", piece(off, false, count(8)))
			built(t, "the last one, empty", piece(off, false, nil))
		}
	}
	unbuilt(t, "neither More nor Off", piece(0, false, count(8)))
	unbuilt(t, "neither More nor Off, empty", piece(0, false, nil))
	for _, off := range []int{1, 2, 3, 4, 5, 6, 7, 9, 12, 15, 65501, 65521, -1, -7, -8, -16, -65536, math.MinInt, math.MaxInt, math.MaxInt - 7, 1 << 16, 1 << 19, 1<<32 + 8} {
		unbuilt(t, "Off", piece(off, false, count(8)))
		unbuilt(t, "Off with More", piece(off, true, count(8)))
		unbuilt(t, "Off with no Data", piece(off, true, nil))
	}
	for n := range 33 {
		p := piece(16, true, count(n))
		if n%8 == 0 {
			built(t, "More with a multiple of 8", p)
		} else {
			unbuilt(t, "More with no multiple of 8", p)
		}
	}
	for _, id := range []uint32{0, 1, 255, 65535, 65536, 1 << 31, math.MaxUint32} {
		p := piece(8, false, count(3))
		p.Id = id
		built(t, "Id", p)
	}
}

func TestBuildEnd(t *testing.T) {
	for _, c := range []struct {
		off, n int
		right  bool
	}{
		{65528, 7, true}, {65528, 8, false}, {65528, 0, true}, {65536, 0, false}, {536, 64999, true}, {536, 65000, false},
		{528, 65000, true}, {544, 65000, false}, {32768, 32767, true}, {32768, 32768, false}, {65520, 15, true}, {65520, 16, false},
	} {
		p := piece(c.off, false, count(c.n))
		if c.right {
			built(t, "up to the end", p)
		} else {
			unbuilt(t, "past the end", p)
		}
	}
	built(t, "More up to the end", piece(65520, true, count(8)))
	built(t, "More at the last place", piece(65528, true, nil))
	unbuilt(t, "More past the end", piece(65528, true, count(8)))
}

// TestBuildFirst: at the place 0 Build does not ask whether the headers are all there, but Parse does.
func TestBuildFirst(t *testing.T) {
	for _, c := range []struct {
		proto int
		data  []byte
	}{{6, count(16)}, {17, nil}, {1, nil}, {58, nil}, {60, nil}, {44, make([]byte, 8)}, {0, make([]byte, 8)}, {43, make([]byte, 8)}} {
		p := piece(0, true, c.data)
		p.Proto = c.proto
		refused(t, "headers that are not all there", written(t, "the first", p), api.ErrHead)
	}
	for _, c := range []struct {
		proto int
		data  []byte
	}{{6, count(24)}, {17, count(8)}, {1, count(8)}, {58, count(8)}, {59, nil}} {
		p := piece(0, true, c.data)
		p.Proto = c.proto
		built(t, "headers that are all there", p)
	}
	p := piece(0, true, []byte{17, 0, 0, 0, 0, 0, 0, 0, 1, 2, 3, 4, 5, 6, 7, 8})
	p.Proto = 60
	built(t, "headers that are all there behind another", p)
}

// TestBuildWhole: of what is no fragment Id, Off and More are not asked for.
func TestBuildWhole(t *testing.T) {
	for _, off := range []int{0, 1, 8, -8, 65536, math.MaxInt, math.MinInt} {
		for _, more := range []bool{false, true} {
			p := but(func(p *api.Ip) { p.Id, p.Off, p.More = 77, off, more })
			built(t, "no fragment", p)
			if b := written(t, "no fragment", p); !bytes.Equal(b, plainBuild(ordinary())) {
				t.Error("no fragment:", b)
			}
		}
	}
}

// someIp is a packet that Build takes, and that can be read again.
func someIp(r *rand.Rand) api.Ip {
	some := func() api.Addr { return api.Addr{Fam: 6, Hi: r.Uint64(), Lo: r.Uint64()} }
	p := api.Ip{Fam: 6, Src: some(), Dst: some(), Proto: r.Intn(256), Hop: 1 + r.Intn(255), Frag: r.Intn(2) == 0}
	n := r.Intn(100)
	if r.Intn(50) == 0 {
		n = r.Intn(65001)
	}
	if p.Frag {
		p.Id, p.More = r.Uint32(), r.Intn(2) == 0
		if p.More {
			n -= n % 8
		}
		p.Off = 8 + r.Intn((65535-n)/8)*8
	}
	if r.Intn(8) == 0 && p.More {
		p.Off, p.Proto, n = 0, 17, max(n, 8)
	}
	for !p.Frag && slices.Contains([]int{0, 43, 44, 60}, p.Proto) {
		p.Proto = r.Intn(256)
	}
	p.Data = make([]byte, n)
	r.Read(p.Data)
	return p
}

func TestBuildAny(t *testing.T) {
	r := rand.New(rand.NewSource(11))
	for range 20000 {
		built(t, "some packet", someIp(r))
	}
}

// R4

func TestBuildShares(t *testing.T) {
	for _, p := range []api.Ip{ordinary(), piece(8, true, count(8)), but(func(p *api.Ip) { p.Data = nil }), but(func(p *api.Ip) { p.Hop = 0 })} {
		room := append(slices.Clone(p.Data), 77, 77, 77)
		p.Data = room[:len(p.Data)]
		p.Exts = []int{9, 9}[:0]
		if p.Frag {
			p.Exts = []int{44, 9}[:1]
		}
		exts := slices.Clone(p.Exts[:2])
		before := slices.Clone(room)
		b, _ := ip6.Build(p)
		want, _ := ip6.Build(p)
		for i := range b {
			b[i] ^= 255
		}
		_ = append(b, 1, 2, 3)
		if !bytes.Equal(room, before) || !slices.Equal(p.Exts[:2], exts) {
			t.Error("an argument was written into", p)
		}
		kept := slices.Clone(want)
		for i := range room {
			room[i] ^= 255
		}
		if !bytes.Equal(want, kept) {
			t.Error("an argument is kept", p)
		}
	}
}
