package ip4_test

import (
	"bytes"
	"encoding/binary"
	"math/rand"
	"slices"
	"testing"

	"stockade/api"
	"stockade/ip4"
)

// raw is a packet as it is written by hand: zero fields stand for those of an ordinary one.
type raw struct {
	version int // 0: 4
	words   int // 0: as many as the options ask for
	size    int // 0: as many bytes as there are
	id      int
	flags   int // the three flags, the highest first
	place   int // in eights of bytes
	hop     int // 0: 64; -1: none
	proto   int
	sum     int // what is added to the right check sum
	options []byte
	data    []byte
	tail    []byte // bytes behind the packet
	cut     int    // so many of all these bytes alone, if it is not 0
}

const (
	topBit  = 4
	keepBit = 2
	moreBit = 1
)

// or is n, or other, if n is 0.
func or(n, other int) int {
	if n == 0 {
		return other
	}
	return n
}

// bytes are the packet's bytes, with a check sum over as many of them as the header claims to have.
func (r raw) bytes() []byte {
	head := make([]byte, 20, 60)
	head = append(head, r.options...)
	words := or(r.words, len(head)/4)
	all := slices.Concat(head, r.data, r.tail)
	all[0] = byte(or(r.version, 4)<<4 | words)
	binary.BigEndian.PutUint16(all[2:], uint16(or(r.size, len(head)+len(r.data))))
	binary.BigEndian.PutUint16(all[4:], uint16(r.id))
	binary.BigEndian.PutUint16(all[6:], uint16(r.flags<<13|r.place))
	all[8] = byte(max(or(r.hop, 64), 0))
	all[9] = byte(r.proto)
	copy(all[12:], []byte{10, 0, 0, 1, 10, 0, 0, 2})
	mend(all[:min(max(words*4, 20), len(all))])
	binary.BigEndian.PutUint16(all[10:], binary.BigEndian.Uint16(all[10:])+uint16(r.sum))
	if r.cut != 0 {
		return all[:r.cut]
	}
	return all
}

// plainSum adds words as the first layer's chapter says; an odd byte does not come.
func plainSum(b []byte) int {
	total := 0
	for i := 0; i+1 < len(b); i += 2 {
		total += int(b[i])*256 + int(b[i+1])
	}
	for total > 65535 {
		total = total/65536 + total%65536
	}
	return total
}

// mend gives a header its right check sum.
func mend(head []byte) {
	head[10], head[11] = 0, 0
	binary.BigEndian.PutUint16(head[10:], uint16(65535-plainSum(head)))
}

// count are n bytes that count from 1 on.
func count(n int) []byte {
	b := make([]byte, n)
	for i := range b {
		b[i] = byte(i + 1)
	}
	return b
}

// padded are options, with bytes 0 behind them up to a whole word.
func padded(options ...byte) []byte {
	return append(options, make([]byte, (4-len(options)%4)%4)...)
}

func a4(lo uint64) api.Addr { return api.Addr{Fam: 4, Lo: lo} }

// ordinary is the packet of the chapter's example.
func ordinary() api.Ip {
	return api.Ip{Fam: 4, Src: a4(0x0a000001), Dst: a4(0x0a000002), Proto: 17, Hop: 64, Data: []byte{1, 2, 3, 4}}
}

// same tells whether two packets are, where lists that are nil or empty are the same.
func same(a, b api.Ip) bool {
	return a.Fam == b.Fam && a.Src == b.Src && a.Dst == b.Dst && a.Proto == b.Proto && a.Hop == b.Hop &&
		a.Frag == b.Frag && a.Id == b.Id && a.Off == b.Off && a.More == b.More &&
		slices.Equal(a.Exts, b.Exts) && bytes.Equal(a.Data, b.Data)
}

// refused checks that Parse answers an error, and nothing beside it.
func refused(t *testing.T, name string, b []byte, want api.Errno) {
	t.Helper()
	p, e := ip4.Parse(b)
	if e != want || !same(p, api.Ip{}) {
		t.Errorf("%s: %v %v, want %v", name, p, e, want)
	}
}

// taken checks that Parse answers a packet.
func taken(t *testing.T, name string, b []byte, want api.Ip) {
	t.Helper()
	p, e := ip4.Parse(b)
	if e != api.OK || !same(p, want) {
		t.Errorf("%s: %v %v, want %v", name, p, e, want)
	}
}

// P3.1

// example are the bytes of the chapter's example; the check sum was worked out by hand.
var example = []byte{69, 0, 0, 24, 0, 0, 0, 0, 64, 17, 0x66, 0xd3, 10, 0, 0, 1, 10, 0, 0, 2, 1, 2, 3, 4}

func TestParse(t *testing.T) {
	taken(t, "the chapter's example", example, ordinary())
	b := slices.Clone(example)
	b[1] = 0xb8 // a byte that the chapter does not name
	mend(b[:20])
	taken(t, "another kind of service", b, ordinary())
	b = slices.Clone(example)
	copy(b[12:], []byte{255, 254, 253, 252, 0, 128, 0, 255})
	b[8], b[9] = 1, 255
	mend(b[:20])
	taken(t, "other numbers", b, api.Ip{Fam: 4, Src: a4(0xfffefdfc), Dst: a4(0x008000ff), Proto: 255, Hop: 1, Data: []byte{1, 2, 3, 4}})
	b[8], b[9] = 255, 0
	mend(b[:20])
	taken(t, "the most hops", b, api.Ip{Fam: 4, Src: a4(0xfffefdfc), Dst: a4(0x008000ff), Hop: 255, Data: []byte{1, 2, 3, 4}})
}

func TestParseShort(t *testing.T) {
	refused(t, "nil", nil, api.ErrShort)
	for n := range 20 {
		refused(t, "the beginning of a packet", example[:n], api.ErrShort)
		refused(t, "bytes of 255", bytes.Repeat([]byte{255}, n), api.ErrShort)
	}
	p := ordinary()
	p.Data = nil
	taken(t, "20 bytes", raw{proto: 17}.bytes(), p)
}

func TestParseVersion(t *testing.T) {
	for v := 1; v < 16; v++ {
		b := raw{version: v, proto: 17, data: count(4)}.bytes()
		if v == 4 {
			taken(t, "version 4", b, ordinary())
		} else {
			refused(t, "another version", b, api.ErrVer)
		}
	}
	b := slices.Clone(example)
	b[0] = 5
	mend(b[:20])
	refused(t, "version 0", b, api.ErrVer)
}

func TestParseHead(t *testing.T) {
	for words := 1; words < 5; words++ {
		refused(t, "fewer than 5 words", raw{words: words, data: count(40)}.bytes(), api.ErrHead)
	}
	b := slices.Clone(example)
	b[0] = 4 << 4
	refused(t, "no words", b, api.ErrHead)
	for words := 5; words < 16; words++ {
		options := bytes.Repeat([]byte{1}, words*4-20)
		p := ordinary()
		taken(t, "options", raw{options: options, proto: 17, data: count(4)}.bytes(), p)
		p.Data = nil
		taken(t, "options, and nothing behind", raw{options: options, proto: 17}.bytes(), p)
	}
	for words := 6; words < 16; words++ {
		b := raw{words: words, data: bytes.Repeat([]byte{1}, words*4-21)}.bytes()
		refused(t, "one byte less than the header has", b, api.ErrHead)
		refused(t, "no room for options", raw{words: words}.bytes(), api.ErrHead)
	}
}

func TestParseLength(t *testing.T) {
	for _, options := range [][]byte{nil, padded(1), bytes.Repeat([]byte{1}, 40)} {
		head := 20 + len(options)
		refused(t, "one below the header's", raw{options: options, size: head - 1, data: count(4)}.bytes(), api.ErrLen)
		refused(t, "one past the bytes", raw{options: options, size: head + 5, data: count(4)}.bytes(), api.ErrLen)
		refused(t, "the greatest", raw{options: options, size: 65535, data: count(4)}.bytes(), api.ErrLen)
		for n := range 5 {
			p := ordinary()
			p.Data = count(n)
			b := raw{options: options, proto: 17, size: head + n, data: count(4)}.bytes()
			taken(t, "as many as the length says", b, p)
		}
	}
	refused(t, "below the least header", raw{size: 19, data: count(4)}.bytes(), api.ErrLen)
	b := slices.Clone(example)
	b[2], b[3] = 0, 0
	mend(b[:20])
	refused(t, "no length", b, api.ErrLen)
}

func TestParseLongest(t *testing.T) {
	p := ordinary()
	p.Data = count(65515)
	taken(t, "65535 bytes", raw{proto: 17, data: p.Data}.bytes(), p)
	taken(t, "65535 bytes of more", raw{proto: 17, data: p.Data, tail: count(100000)}.bytes(), p)
	p.Data = count(65475)
	taken(t, "65535 bytes with options", raw{proto: 17, options: padded(bytes.Repeat([]byte{1}, 40)...), data: p.Data}.bytes(), p)
}

func TestParseSum(t *testing.T) {
	for _, n := range []int{1, -1, 0x100, 0x8000, 0x1234} {
		refused(t, "a wrong check sum", raw{data: count(4), sum: n}.bytes(), api.ErrSum)
		refused(t, "a wrong check sum with options", raw{options: padded(1, 1), data: count(4), sum: n}.bytes(), api.ErrSum)
	}
	b := raw{options: padded(7, 4, 9, 9), data: count(4)}.bytes()
	b[23] ^= 1
	refused(t, "an option's byte turned", b, api.ErrSum)
	b = raw{options: padded(7, 4, 9, 9), data: count(4)}.bytes()
	b[24] ^= 1
	if _, e := ip4.Parse(b); e != api.OK {
		t.Error("what is behind the header turned:", e)
	}
	b = make([]byte, 20)
	b[0], b[3], b[8] = 69, 20, 1
	refused(t, "no check sum", b, api.ErrSum)
}

func TestParseHop(t *testing.T) {
	refused(t, "no hops", raw{hop: -1, data: count(4)}.bytes(), api.ErrHop)
}

func TestParseFlags(t *testing.T) {
	for flags := range 8 {
		b := raw{flags: flags, proto: 17, id: 0x1234, data: count(8)}.bytes()
		p := ordinary()
		p.Data = count(8)
		switch {
		case flags&topBit != 0:
			refused(t, "the highest flag", b, api.ErrFlags)
		case flags&moreBit != 0:
			p.Frag, p.Id, p.More = true, 0x1234, true
			taken(t, "More", b, p)
		default:
			taken(t, "not a fragment", b, p)
		}
	}
}

func TestParseFragment(t *testing.T) {
	for _, flags := range []int{0, keepBit, moreBit, keepBit | moreBit} {
		for _, place := range []int{0, 1, 2, 31, 32, 4095, 4096, 8188} {
			p := ordinary()
			p.Data = count(8)
			if flags&moreBit != 0 || place != 0 {
				p.Frag, p.Id, p.Off, p.More = true, 0xfedc, place*8, flags&moreBit != 0
			}
			b := raw{flags: flags, place: place, id: 0xfedc, proto: 17, data: count(8)}.bytes()
			taken(t, "a fragment", b, p)
		}
	}
}

func TestParseMore(t *testing.T) {
	for n := range 34 {
		for _, options := range [][]byte{nil, padded(1), padded(1, 1, 1, 1, 1)} {
			for _, place := range []int{0, 1, 100} {
				r := raw{options: options, flags: moreBit, place: place, proto: 17, data: count(n), tail: count(n % 5)}
				if n%8 != 0 {
					refused(t, "More and no multiple of 8", r.bytes(), api.ErrLen)
					continue
				}
				p := ordinary()
				p.Frag, p.Off, p.More, p.Data = true, place*8, true, count(n)
				taken(t, "More and a multiple of 8", r.bytes(), p)
			}
		}
	}
}

func TestParseOver(t *testing.T) {
	for _, c := range []struct {
		flags, place, n int
		want            api.Errno
	}{
		{0, 8189, 3, api.OK},
		{0, 8189, 4, api.ErrOver},
		{0, 8189, 0, api.OK},
		{0, 8190, 0, api.ErrOver},
		{0, 8191, 0, api.ErrOver},
		{0, 8191, 1400, api.ErrOver},
		{0, 1, 65507, api.OK},
		{0, 1, 65508, api.ErrOver},
		{moreBit, 8188, 8, api.OK},
		{moreBit, 8189, 0, api.OK},
		{moreBit, 8189, 8, api.ErrOver},
		{moreBit, 4095, 32752, api.OK},
		{moreBit, 4095, 32760, api.ErrOver},
	} {
		b := raw{flags: c.flags, place: c.place, proto: 17, data: count(c.n)}.bytes()
		if c.want != api.OK {
			refused(t, "past the end", b, c.want)
			continue
		}
		p := ordinary()
		p.Frag, p.Off, p.More, p.Data = true, c.place*8, c.flags&moreBit != 0, count(c.n)
		taken(t, "up to the end", b, p)
	}
	b := raw{options: padded(1), place: 8189, proto: 17, data: count(4)}.bytes()
	refused(t, "options do not count", b, api.ErrOver)
	b = raw{options: bytes.Repeat([]byte{1}, 40), place: 8189, proto: 17, data: count(3)}.bytes()
	p := ordinary()
	p.Frag, p.Off, p.Data = true, 8189*8, count(3)
	taken(t, "options do not count", b, p)
}

func TestParseOptions(t *testing.T) {
	full := func(first ...byte) []byte { return append(first, make([]byte, 40-len(first))...) }
	for _, c := range []struct {
		name    string
		options []byte
		want    api.Errno
	}{
		{"an end", []byte{0, 0, 0, 0}, api.OK},
		{"an end ahead of what may not be", []byte{0, 7, 0, 131}, api.OK},
		{"an end behind one that may be", []byte{1, 7, 2, 0, 7, 1, 137, 9}, api.OK},
		{"bytes 1", []byte{1, 1, 1, 1}, api.OK},
		{"a byte 1 and an end", []byte{1, 0, 7, 0}, api.OK},
		{"the least length", []byte{7, 2, 7, 2}, api.OK},
		{"up to the header's end", []byte{7, 4, 0, 0}, api.OK},
		{"up to the header's end, behind others", []byte{1, 7, 3, 0, 68, 4, 131, 137}, api.OK},
		{"what is in an option is none", []byte{7, 6, 131, 137, 9, 0, 1, 1}, api.OK},
		{"the longest", full(7, 40), api.OK},
		{"kind 255", []byte{255, 4, 0, 0}, api.OK},
		{"kind 2", []byte{2, 3, 0, 1}, api.OK},
		{"kind 3 (131 less its upper bit)", []byte{3, 4, 4, 0}, api.OK},
		{"kind 9 (137 less its upper bit)", []byte{9, 4, 4, 0}, api.OK},
		{"kind 130", []byte{130, 4, 0, 0}, api.OK},
		{"kind 132", []byte{132, 4, 0, 0}, api.OK},
		{"kind 136", []byte{136, 4, 0, 0}, api.OK},
		{"kind 138", []byte{138, 4, 0, 0}, api.OK},
		{"kind 128", []byte{128, 4, 0, 0}, api.OK},
		{"a length of 0", []byte{7, 0, 0, 0}, api.ErrOpt},
		{"a length of 1", []byte{7, 1, 0, 0}, api.ErrOpt},
		{"a length of 1 behind another", []byte{1, 7, 1, 0}, api.ErrOpt},
		{"one past the header", []byte{7, 5, 0, 0}, api.ErrOpt},
		{"one past the header, behind another", []byte{1, 7, 4, 0}, api.ErrOpt},
		{"far past the header", []byte{7, 255, 0, 0}, api.ErrOpt},
		{"one past the longest", full(7, 41), api.ErrOpt},
		{"no room for a length", []byte{1, 1, 1, 7}, api.ErrOpt},
		{"no room for a length behind another", []byte{7, 3, 0, 2}, api.ErrOpt},
		{"kind 255 with no room", []byte{1, 1, 1, 255}, api.ErrOpt},
		{"a loose route", []byte{131, 3, 4, 0}, api.ErrRoute},
		{"a strict route", []byte{137, 3, 4, 0}, api.ErrRoute},
		{"a loose route behind others", []byte{1, 7, 3, 0, 131, 4, 0, 0}, api.ErrRoute},
		{"a strict route behind others", []byte{1, 7, 3, 0, 137, 4, 0, 0}, api.ErrRoute},
		{"a loose route of a length of 0", []byte{131, 0, 0, 0}, api.ErrRoute},
		{"a strict route of a length of 1", []byte{137, 1, 0, 0}, api.ErrRoute},
		{"a loose route past the header", []byte{131, 9, 0, 0}, api.ErrRoute},
		{"a strict route with no room", []byte{1, 1, 1, 137}, api.ErrRoute},
		{"a loose route with no room", []byte{1, 1, 1, 131}, api.ErrRoute},
		{"a route ahead of what may not be", []byte{131, 3, 0, 7, 0, 0, 0, 0}, api.ErrRoute},
		{"what may not be ahead of a route", []byte{7, 0, 0, 0, 131, 3, 0, 0}, api.ErrOpt},
		{"what may not be just ahead of a route", []byte{7, 1, 137, 3}, api.ErrOpt},
	} {
		b := raw{options: c.options, proto: 17, data: count(4)}.bytes()
		if c.want != api.OK {
			refused(t, c.name, b, c.want)
		} else {
			taken(t, c.name, b, ordinary())
		}
	}
}

// faults are what may be wrong with a packet, in the order in which P3.1 tells of it.
var faults = []struct {
	name string
	want api.Errno
	make func(r *raw)
}{
	{"short", api.ErrShort, func(r *raw) { r.cut = 19 }},
	{"version", api.ErrVer, func(r *raw) { r.version = 6 }},
	{"head", api.ErrHead, func(r *raw) { r.words = 4 }},
	{"length", api.ErrLen, func(r *raw) { r.size = 19 }},
	{"sum", api.ErrSum, func(r *raw) { r.sum = 1 }},
	{"hop", api.ErrHop, func(r *raw) { r.hop = -1 }},
	{"flags", api.ErrFlags, func(r *raw) { r.flags |= topBit }},
	{"option", api.ErrOpt, func(r *raw) { r.options = append(slices.Clone(r.options), 7, 1, 0, 0) }},
	{"route", api.ErrRoute, func(r *raw) { r.options = append(slices.Clone(r.options), 131, 3, 4, 0) }},
	{"More", api.ErrLen, func(r *raw) { r.flags |= moreBit }},
	{"over", api.ErrOver, func(r *raw) { r.place = 8191 }},
}

func TestParseOrder(t *testing.T) {
	for i, first := range faults {
		for _, then := range faults[i:] {
			r := raw{data: count(12)}
			first.make(&r)
			then.make(&r)
			refused(t, first.name+" ahead of "+then.name, r.bytes(), first.want)
		}
		r := raw{data: count(12)}
		for _, f := range faults[i:] {
			f.make(&r)
		}
		refused(t, first.name+" ahead of all others", r.bytes(), first.want)
	}
	refused(t, "a header past the bytes ahead of a length past them", raw{words: 15, size: 65535, data: count(12)}.bytes(), api.ErrHead)
	refused(t, "a length past the bytes ahead of a wrong sum", raw{size: 65535, data: count(12), sum: 1}.bytes(), api.ErrLen)
	refused(t, "a route ahead of an option", raw{options: []byte{137, 3, 0, 7}, flags: moreBit, data: count(12)}.bytes(), api.ErrRoute)
}

// plainParse is P3.1 in its own words.
func plainParse(b []byte) (api.Ip, api.Errno) {
	none := api.Ip{}
	if len(b) < 20 {
		return none, api.ErrShort
	}
	if b[0]/16 != 4 {
		return none, api.ErrVer
	}
	head := int(b[0]%16) * 4
	if head < 20 || head > len(b) {
		return none, api.ErrHead
	}
	size := int(binary.BigEndian.Uint16(b[2:]))
	if size < head || size > len(b) {
		return none, api.ErrLen
	}
	if plainSum(b[:head]) != 65535 {
		return none, api.ErrSum
	}
	if b[8] == 0 {
		return none, api.ErrHop
	}
	if b[6] >= 128 {
		return none, api.ErrFlags
	}
	for at := 20; at < head && b[at] != 0; {
		if b[at] == 131 || b[at] == 137 {
			return none, api.ErrRoute
		}
		if b[at] == 1 {
			at++
			continue
		}
		if at+1 >= head || b[at+1] < 2 || at+int(b[at+1]) > head {
			return none, api.ErrOpt
		}
		at += int(b[at+1])
	}
	more := b[6]/32%2 == 1
	off := int(binary.BigEndian.Uint16(b[6:])) % 8192 * 8
	if more && (size-head)%8 != 0 {
		return none, api.ErrLen
	}
	if off+size-head > 65515 {
		return none, api.ErrOver
	}
	p := api.Ip{Fam: 4, Proto: int(b[9]), Hop: int(b[8]), Data: b[head:size]}
	p.Src = a4(uint64(binary.BigEndian.Uint32(b[12:])))
	p.Dst = a4(uint64(binary.BigEndian.Uint32(b[16:])))
	if more || off > 0 {
		p.Frag, p.Off, p.More, p.Id = true, off, more, uint32(binary.BigEndian.Uint16(b[4:]))
	}
	return p, api.OK
}

// asPlain checks that Parse answers what P3.1's own words do.
func asPlain(t *testing.T, b []byte) api.Errno {
	t.Helper()
	p, e := ip4.Parse(b)
	want, wantE := plainParse(b)
	if e != wantE || !same(p, want) {
		t.Fatalf("Parse(%v): %v %v, want %v %v", b, p, e, want, wantE)
	}
	return e
}

// someRaw is a packet of which much is ordinary, and some of it not.
func someRaw(r *rand.Rand) raw {
	one := func(n int) bool { return r.Intn(n) == 0 }
	p := raw{id: r.Intn(65536), proto: r.Intn(256), flags: r.Intn(4), data: make([]byte, r.Intn(40)/(1+r.Intn(8))*8)}
	if one(2) {
		p.place = r.Intn(8192) >> r.Intn(14)
	}
	if one(10) {
		p.place = 8191 - r.Intn(8)
	}
	if one(3) {
		p.data = make([]byte, r.Intn(50))
	}
	kinds := []byte{0, 1, 1, 1, 2, 3, 4, 7, 131, 137, 255}
	if one(2) {
		for range r.Intn(11) * 4 {
			p.options = append(p.options, kinds[r.Intn(len(kinds))])
		}
	}
	if one(4) {
		p.tail = make([]byte, r.Intn(30))
	}
	if one(20) {
		p.hop = -1
	}
	if one(20) {
		p.flags |= topBit
	}
	if one(10) {
		p.size = r.Intn(100)
	}
	if one(20) {
		p.words = r.Intn(16)
	}
	r.Read(p.data)
	r.Read(p.tail)
	return p
}

func TestParseAny(t *testing.T) {
	r := rand.New(rand.NewSource(3))
	met := map[api.Errno]int{}
	for range 200000 {
		b := someRaw(r).bytes()
		if r.Intn(4) == 0 {
			b[r.Intn(len(b))] ^= byte(1 << r.Intn(8))
		}
		if r.Intn(20) == 0 {
			b = b[:r.Intn(len(b)+1)]
		}
		met[asPlain(t, b)]++
	}
	for _, e := range []api.Errno{api.OK, api.ErrShort, api.ErrVer, api.ErrHead, api.ErrLen, api.ErrSum, api.ErrHop, api.ErrFlags, api.ErrOpt, api.ErrRoute, api.ErrOver} {
		if met[e] < 100 {
			t.Errorf("%v was met %d times alone", e, met[e])
		}
	}
}

func FuzzParse(f *testing.F) {
	f.Add([]byte{})
	f.Add(example)
	f.Add(raw{options: padded(1, 7, 3, 0, 131), flags: moreBit, place: 9, data: count(16), tail: count(3)}.bytes())
	f.Fuzz(func(t *testing.T, b []byte) {
		asPlain(t, b)
		if len(b) >= 20 {
			b = slices.Clone(b)
			mend(b[:min(max(int(b[0]%16)*4, 20), len(b))])
			asPlain(t, b)
		}
	})
}

// P3.4

func TestBehind(t *testing.T) {
	r := rand.New(rand.NewSource(4))
	for range 20000 {
		raw := someRaw(r)
		raw.tail = nil
		b := raw.bytes()
		p, e := ip4.Parse(b)
		if e != api.OK && e != api.ErrFlags && e != api.ErrOpt && e != api.ErrRoute && e != api.ErrOver && e != api.ErrHop {
			continue // the others may come of the bytes that there are
		}
		size := int(binary.BigEndian.Uint16(b[2:]))
		for _, behind := range [][]byte{nil, {0}, {1}, count(7), bytes.Repeat([]byte{255}, 100)} {
			q, f := ip4.Parse(append(slices.Clone(b[:size]), behind...))
			if f != e || !same(p, q) {
				t.Fatalf("%v behind %v: %v %v, want %v %v", behind, b[:size], q, f, p, e)
			}
		}
	}
}

// R4

func TestParseShares(t *testing.T) {
	for _, r := range []raw{{data: count(8)}, {data: count(8), tail: count(9)}, {options: padded(7, 3, 1), data: count(16), flags: moreBit, id: 7}, {}} {
		b := r.bytes()
		long := append(slices.Clone(b), 77, 77, 77)
		b = long[:len(b)]
		before := slices.Clone(long)
		p, _ := ip4.Parse(b)
		want, _ := ip4.Parse(b)
		for i := range p.Data {
			p.Data[i] ^= 255
		}
		p.Data = append(p.Data, 1, 2, 3)
		if !bytes.Equal(long, before) {
			t.Error("an argument was written into", r)
		}
		kept := slices.Clone(want.Data)
		for i := range b {
			b[i] ^= 255
		}
		if !bytes.Equal(want.Data, kept) {
			t.Error("an argument is kept", r)
		}
	}
	for _, f := range faults {
		r := raw{data: count(12)}
		f.make(&r)
		b := r.bytes()
		before := slices.Clone(b)
		ip4.Parse(b)
		if !bytes.Equal(b, before) {
			t.Error("an argument that is refused was written into", f.name)
		}
	}
}
