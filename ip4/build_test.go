package ip4_test

import (
	"bytes"
	"encoding/binary"
	"math"
	"math/rand"
	"slices"
	"testing"

	"stockade/api"
	"stockade/ip4"
)

// plainBuild is P3.2's packet in its own words.
func plainBuild(p api.Ip) []byte {
	b := make([]byte, 20, 20+len(p.Data))
	b[0] = 0x45
	binary.BigEndian.PutUint16(b[2:], uint16(20+len(p.Data)))
	if p.Frag {
		binary.BigEndian.PutUint16(b[4:], uint16(p.Id))
		binary.BigEndian.PutUint16(b[6:], uint16(p.Off/8))
		if p.More {
			b[6] += 32
		}
	}
	b[8], b[9] = byte(p.Hop), byte(p.Proto)
	binary.BigEndian.PutUint32(b[12:], uint32(p.Src.Lo))
	binary.BigEndian.PutUint32(b[16:], uint32(p.Dst.Lo))
	mend(b)
	return append(b, p.Data...)
}

// bare is a packet as Parse tells of it, once it was built.
func bare(p api.Ip) api.Ip {
	if !p.Frag {
		p.Id, p.Off, p.More = 0, 0, false
	}
	return p
}

// built checks that Build writes a packet, and that Parse reads it again (P3.3).
func built(t *testing.T, name string, p api.Ip) []byte {
	t.Helper()
	b, e := ip4.Build(p)
	if e != api.OK || !bytes.Equal(b, plainBuild(p)) {
		t.Errorf("%s: Build(%v): %v %v", name, p, b, e)
		return nil
	}
	q, e := ip4.Parse(b)
	if e != api.OK || !same(q, bare(p)) {
		t.Errorf("%s: Parse of Build(%v): %v %v", name, p, q, e)
	}
	return b
}

// unbuilt checks that Build answers ErrArg, and no bytes.
func unbuilt(t *testing.T, name string, p api.Ip) {
	t.Helper()
	if b, e := ip4.Build(p); e != api.ErrArg || len(b) != 0 {
		t.Errorf("%s: Build(%v): %v %v", name, p, b, e)
	}
}

// but is the ordinary packet, but for what change does.
func but(change func(p *api.Ip)) api.Ip {
	p := ordinary()
	change(&p)
	return p
}

// piece is a fragment of the ordinary packet.
func piece(off int, more bool, data []byte) api.Ip {
	return but(func(p *api.Ip) { p.Frag, p.Id, p.Off, p.More, p.Data = true, 0x1234, off, more, data })
}

// P3.2, P3.3

func TestBuild(t *testing.T) {
	b, e := ip4.Build(ordinary())
	if e != api.OK || !bytes.Equal(b, example) {
		t.Error("the chapter's example:", b, e)
	}
	b, e = ip4.Build(piece(8, true, count(8)))
	want := []byte{69, 0, 0, 28, 0x12, 0x34, 0x20, 1, 64, 17, 0x34, 0x9a, 10, 0, 0, 1, 10, 0, 0, 2, 1, 2, 3, 4, 5, 6, 7, 8}
	if e != api.OK || !bytes.Equal(b, want) {
		t.Error("a fragment:", b, e)
	}
}

func TestBuildNumbers(t *testing.T) {
	for _, n := range []int{0, 1, 6, 17, 127, 128, 254, 255} {
		built(t, "Proto", but(func(p *api.Ip) { p.Proto = n }))
		if n > 0 {
			built(t, "Hop", but(func(p *api.Ip) { p.Hop = n }))
		}
	}
	for _, n := range []int{math.MinInt, math.MinInt + 17, -256, -255, -1, 256, 257, 256 + 17, 65536, 1<<32 + 17, math.MaxInt} {
		unbuilt(t, "Proto", but(func(p *api.Ip) { p.Proto = n }))
		unbuilt(t, "Hop", but(func(p *api.Ip) { p.Hop = n }))
	}
	unbuilt(t, "no hops", but(func(p *api.Ip) { p.Hop = 0 }))
	for _, n := range []int{math.MinInt, -4, 0, 3, 5, 6, 1<<32 + 4, math.MaxInt} {
		unbuilt(t, "Fam", but(func(p *api.Ip) { p.Fam = n }))
	}
	unbuilt(t, "nothing", api.Ip{})
}

func TestBuildAddrs(t *testing.T) {
	for _, lo := range []uint64{0, 1, 0x7f000001, 0x80000000, 0xe0000001, math.MaxUint32} {
		built(t, "Src", but(func(p *api.Ip) { p.Src = a4(lo) }))
		built(t, "Dst", but(func(p *api.Ip) { p.Dst = a4(lo) }))
	}
	for _, a := range []api.Addr{{}, {Lo: 1}, {Fam: 6}, {Fam: 6, Lo: 0x0a000001}, {Fam: 6, Hi: 1, Lo: 1}, {Fam: -4, Lo: 1}, {Fam: 5, Lo: 1}, {Fam: 4, Lo: 1 << 32}, {Fam: 4, Lo: math.MaxUint64}, {Fam: 4, Hi: 1}, {Fam: 4, Hi: math.MaxUint64, Lo: 1}} {
		unbuilt(t, "Src", but(func(p *api.Ip) { p.Src = a }))
		unbuilt(t, "Dst", but(func(p *api.Ip) { p.Dst = a }))
		unbuilt(t, "both", but(func(p *api.Ip) { p.Src, p.Dst = a, a }))
	}
	six := api.Addr{Fam: 6, Lo: 1}
	unbuilt(t, "all of family 6", but(func(p *api.Ip) { p.Fam, p.Src, p.Dst = 6, six, six }))
}

func TestBuildExts(t *testing.T) {
	built(t, "no Exts", but(func(p *api.Ip) { p.Exts = []int{} }))
	for _, exts := range [][]int{{0}, {44}, {60, 44}, make([]int, 9)} {
		unbuilt(t, "Exts", but(func(p *api.Ip) { p.Exts = exts }))
	}
}

func TestBuildData(t *testing.T) {
	for _, n := range []int{0, 1, 2, 7, 8, 9, 255, 256, 65514, 65515} {
		built(t, "Data", but(func(p *api.Ip) { p.Data = count(n) }))
	}
	built(t, "no Data", but(func(p *api.Ip) { p.Data = nil }))
	for _, n := range []int{65516, 65520, 65535, 65536, 65536 + 4, 1 << 17} {
		unbuilt(t, "Data", but(func(p *api.Ip) { p.Data = count(n) }))
		unbuilt(t, "Data of a fragment", piece(8, false, count(n)))
	}
}

func TestBuildFragment(t *testing.T) {
	for _, off := range []int{0, 8, 16, 256, 32768, 65496, 65504} {
		built(t, "More", piece(off, true, count(8)))
		built(t, "More and no Data", piece(off, true, nil))
		if off > 0 {
			built(t, "the last one", piece(off, false, count(3)))
			built(t, "the last one, a multiple of 8", piece(off, false, count(8)))
			built(t, "the last one, empty", piece(off, false, nil))
		}
	}
	unbuilt(t, "Frag without More at the place 0", piece(0, false, count(8)))
	unbuilt(t, "Frag without More at the place 0, empty", piece(0, false, nil))
	for _, off := range []int{1, 2, 3, 4, 5, 6, 7, 9, 12, 15, 65501, -1, -7, -8, -16, -65536, math.MinInt, math.MaxInt, math.MaxInt - 7, 1 << 16, 1 << 19, 1<<32 + 8} {
		unbuilt(t, "Off", piece(off, false, count(8)))
		unbuilt(t, "Off with More", piece(off, true, count(8)))
		unbuilt(t, "Off with no Data", piece(off, true, nil))
	}
	for n := range 33 {
		p := piece(16, true, count(n))
		if n%8 == 0 {
			built(t, "More with a multiple of 8", p)
		} else {
			unbuilt(t, "More with no multiple of 8", p)
		}
	}
}

func TestBuildEnd(t *testing.T) {
	for _, c := range []struct {
		off, n int
		right  bool
	}{
		{65512, 3, true}, {65512, 4, false}, {65512, 0, true}, {65520, 0, false}, {65528, 0, false},
		{8, 65507, true}, {8, 65508, false}, {8, 65515, false}, {32768, 32747, true}, {32768, 32748, false},
	} {
		p := piece(c.off, false, count(c.n))
		if c.right {
			built(t, "up to the end", p)
		} else {
			unbuilt(t, "past the end", p)
		}
	}
	built(t, "More up to the end", piece(65504, true, count(8)))
	unbuilt(t, "More past the end", piece(65512, true, count(8)))
}

func TestBuildId(t *testing.T) {
	for _, id := range []uint32{0, 1, 255, 256, 65534, 65535} {
		p := piece(8, false, count(3))
		p.Id = id
		built(t, "Id", p)
	}
	for _, id := range []uint32{65536, 65537, 1 << 31, math.MaxUint32} {
		p := piece(8, false, count(3))
		p.Id = id
		unbuilt(t, "Id", p)
	}
}

// TestBuildWhole: what is no fragment has nothing of Id, Off and More in it, but they must be such as may be.
func TestBuildWhole(t *testing.T) {
	whole := func(id uint32, off int, more bool, n int) api.Ip {
		return but(func(p *api.Ip) { p.Id, p.Off, p.More, p.Data = id, off, more, count(n) })
	}
	for _, p := range []api.Ip{whole(7, 0, false, 4), whole(65535, 0, false, 4), whole(0, 8, false, 4), whole(0, 65512, false, 3), whole(0, 0, true, 8), whole(0, 0, true, 0), whole(9, 16, true, 8)} {
		b := built(t, "no fragment", p)
		if want := plainBuild(bare(p)); !bytes.Equal(b, want) {
			t.Errorf("Build(%v): %v, want %v", p, b, want)
		}
	}
	for _, p := range []api.Ip{whole(65536, 0, false, 4), whole(0, 4, false, 4), whole(0, -8, false, 4), whole(0, 65512, false, 4), whole(0, 65520, false, 0), whole(0, 0, true, 4), whole(0, math.MaxInt-7, false, 8), whole(0, math.MinInt, false, 8)} {
		unbuilt(t, "no fragment", p)
	}
}

// someIp is a packet that Build takes.
func someIp(r *rand.Rand) api.Ip {
	p := api.Ip{Fam: 4, Src: a4(uint64(r.Uint32())), Dst: a4(uint64(r.Uint32())), Proto: r.Intn(256), Hop: 1 + r.Intn(255), Frag: r.Intn(2) == 0, Id: uint32(r.Intn(65536))}
	p.More = r.Intn(2) == 0
	n := r.Intn(100)
	if r.Intn(50) == 0 {
		n = r.Intn(65516)
	}
	if p.More {
		n -= n % 8
	}
	p.Off = r.Intn((65515-n)/8+1) * 8
	if p.Frag && !p.More && p.Off == 0 {
		p.Frag = false
	}
	p.Data = make([]byte, n)
	r.Read(p.Data)
	return p
}

func TestBuildAny(t *testing.T) {
	r := rand.New(rand.NewSource(5))
	for range 20000 {
		built(t, "some packet", someIp(r))
	}
}

// TestBuildSums: check sums at the edges of what they can be, of which 65535 is none (a header is never all 0).
func TestBuildSums(t *testing.T) {
	met := map[int]bool{}
	for lo := range uint64(65536) {
		p := ordinary()
		p.Dst = a4(lo)
		p.Data = nil
		b, e := ip4.Build(p)
		if e != api.OK || plainSum(b) != 65535 {
			t.Fatal(b, e)
		}
		if _, e := ip4.Parse(b); e != api.OK {
			t.Fatal(b, e)
		}
		met[int(binary.BigEndian.Uint16(b[10:]))] = true
	}
	if !met[0] || !met[1] || !met[65534] || met[65535] {
		t.Error("edges:", met[0], met[1], met[65534], met[65535])
	}
}

// P3.5

// turned checks that each byte of a built header, turned alone to any other, is refused.
func turned(t *testing.T, b []byte) {
	t.Helper()
	for at := range 20 {
		for turn := 1; turn < 256; turn++ {
			if at == 0 && turn < 16 {
				continue
			}
			c := slices.Clone(b)
			c[at] ^= byte(turn)
			p, e := ip4.Parse(c)
			if e == api.OK || !same(p, api.Ip{}) {
				t.Fatalf("byte %d of %v turned by %d: %v %v", at, b[:20], turn, p, e)
			}
		}
	}
}

func TestTurned(t *testing.T) {
	packets := []api.Ip{ordinary(), piece(8, true, count(64)), piece(65512, false, count(3)), but(func(p *api.Ip) { p.Data = nil }), but(func(p *api.Ip) { p.Data = count(1000) })}
	packets = append(packets, but(func(p *api.Ip) { p.Src, p.Dst, p.Proto, p.Hop = a4(0), a4(0), 0, 1 }), but(func(p *api.Ip) { p.Src, p.Dst, p.Proto, p.Hop = a4(math.MaxUint32), a4(math.MaxUint32), 255, 255 }))
	r := rand.New(rand.NewSource(6))
	for range 100 {
		p := someIp(r)
		p.Data = p.Data[:min(len(p.Data), 64)]
		packets = append(packets, p)
	}
	for _, p := range packets {
		b := built(t, "to be turned", p)
		turned(t, b)
		turned(t, append(b, bytes.Repeat([]byte{1}, 700)...)) // behind which a turned length finds bytes
	}
}

// TestTurnedHead: the one turn that may not be refused, as what is behind the header may be options that make its sum right.
func TestTurnedHead(t *testing.T) {
	p := but(func(p *api.Ip) { p.Data = append([]byte{0xfe, 0xff, 0, 0}, count(4)...) })
	b := built(t, "to be turned", p)
	b[0] = 0x46
	refused(t, "an option that may not be", b, api.ErrOpt)
	p.Data[0], p.Data[1], p.Data[2], p.Data[3] = 1, 2, 0xfd, 0xfd
	b = built(t, "to be turned", p)
	b[0] = 0x46
	refused(t, "an option that may not be", b, api.ErrOpt)
	b[0] = 0x44
	refused(t, "a header of 4 words", b, api.ErrHead)
	p.Data[0], p.Data[1], p.Data[2], p.Data[3] = 1, 0, 0xfd, 0xff
	b = built(t, "to be turned", p)
	b[0] = 0x46
	taken(t, "options", b, ordinary())
}

// R4

func TestBuildShares(t *testing.T) {
	for _, p := range []api.Ip{ordinary(), piece(8, true, count(8)), but(func(p *api.Ip) { p.Data = nil })} {
		long := append(slices.Clone(p.Data), 77, 77, 77)
		p.Data = long[:len(p.Data)]
		p.Exts = []int{9, 9}[:0]
		before := slices.Clone(long)
		b, _ := ip4.Build(p)
		want, _ := ip4.Build(p)
		for i := range b {
			b[i] ^= 255
		}
		_ = append(b, 1, 2, 3)
		if !bytes.Equal(long, before) || p.Exts[:1][0] != 9 {
			t.Error("an argument was written into", p)
		}
		kept := slices.Clone(want)
		for i := range long {
			long[i] ^= 255
		}
		if !bytes.Equal(want, kept) {
			t.Error("an argument is kept", p)
		}
	}
}
