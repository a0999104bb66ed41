package ip6_test

import (
	"bytes"
	"encoding/binary"
	"math/rand"
	"slices"
	"testing"

	"stockade/api"
	"stockade/ip6"
)

// raw is a packet as it is written by hand: zero fields stand for those of an ordinary one.
type raw struct {
	version int // 0: 6
	more    int // what is added to the right length
	hop     int // 0: 64; -1: none
	proto   int // 0: 17
	heads   []head
	data    []byte
	tail    []byte // bytes behind the packet
	cut     int    // so many of all these bytes alone, if it is not 0
}

// or is n, or other, if n is 0.
func or(n, other int) int {
	if n == 0 {
		return other
	}
	return n
}

// bytes are the packet's bytes, with 1 in all bits of the first header that have no name.
func (r raw) bytes() []byte {
	next, b := chain(or(r.proto, 17), r.data, r.heads...)
	all := []byte{byte(or(r.version, 6)<<4 | 15), 255, 255, 255}
	all = binary.BigEndian.AppendUint16(all, uint16(len(b)+r.more))
	all = append(all, byte(next), byte(max(or(r.hop, 64), 0)))
	all = append(all, ends...)
	all = slices.Concat(all, b, r.tail)
	if r.cut != 0 {
		return all[:r.cut]
	}
	return all
}

// ends are the bytes of the ordinary packet's addresses.
var ends = []byte{0x20, 1, 0x0d, 0xb8, 0, 1, 2, 3, 4, 5, 6, 7, 8, 9, 10, 11, 0xff, 2, 0, 0, 0, 0, 0, 0, 0, 0, 0, 0, 0, 0, 0, 0xfe}

var (
	from = api.Addr{Fam: 6, Hi: 0x20010db800010203, Lo: 0x0405060708090a0b}
	to   = api.Addr{Fam: 6, Hi: 0xff02000000000000, Lo: 0x00000000000000fe}
)

// ordinary is a whole packet without extension headers.
func ordinary() api.Ip {
	return api.Ip{Fam: 6, Src: from, Dst: to, Proto: 17, Hop: 64, Data: []byte{1, 2, 3, 4}}
}

// whole is the packet of a raw one that is no fragment.
func whole(r raw) api.Ip {
	p := ordinary()
	p.Proto, p.Hop, p.Exts, p.Data = or(r.proto, 17), or(r.hop, 64), kinds(r.heads), r.data
	return p
}

// torn is the packet of a raw one whose last header is that of a fragment at a place in eights of bytes.
func torn(r raw, place int, more bool, id uint32) api.Ip {
	p := whole(r)
	p.Frag, p.Off, p.More, p.Id = true, place*8, more, id
	return p
}

// same tells whether two packets are, where lists that are nil or empty are the same.
func same(a, b api.Ip) bool {
	return a.Fam == b.Fam && a.Src == b.Src && a.Dst == b.Dst && a.Proto == b.Proto && a.Hop == b.Hop &&
		a.Frag == b.Frag && a.Id == b.Id && a.Off == b.Off && a.More == b.More &&
		slices.Equal(a.Exts, b.Exts) && bytes.Equal(a.Data, b.Data)
}

// refused checks that Parse answers an error, and nothing beside it.
func refused(t *testing.T, name string, b []byte, want api.Errno) {
	t.Helper()
	p, e := ip6.Parse(b)
	if e != want || !same(p, api.Ip{}) {
		t.Errorf("%s: %v %v, want %v", name, p, e, want)
	}
}

// taken checks that Parse answers a packet.
func taken(t *testing.T, name string, b []byte, want api.Ip) {
	t.Helper()
	p, e := ip6.Parse(b)
	if e != api.OK || !same(p, want) {
		t.Errorf("%s: %v %v, want %v", name, p, e, want)
	}
}

// P4.2

func TestParse(t *testing.T) {
	b := slices.Concat([]byte{0x60, 0, 0, 0, 0, 4, 17, 64}, ends, []byte{1, 2, 3, 4})
	taken(t, "a whole packet", b, ordinary())
	taken(t, "a whole packet with other bits", raw{data: []byte{1, 2, 3, 4}}.bytes(), ordinary())
	b = slices.Concat([]byte{0x60, 0, 0, 0, 0, 9, 60, 64}, ends, []byte{17, 0, 1, 4, 0, 0, 0, 0, 9})
	p := ordinary()
	p.Exts, p.Data = []int{60}, []byte{9}
	taken(t, "the chapter's example behind a first header", b, p)
	b = slices.Concat([]byte{0x60, 0, 0, 0, 0, 9, 44, 1}, ends, []byte{6, 0, 0x12, 0x30, 0xfe, 0xdc, 0xba, 0x98, 9})
	p = api.Ip{Fam: 6, Src: from, Dst: to, Proto: 6, Hop: 1, Frag: true, Id: 0xfedcba98, Off: 0x1230, Exts: []int{44}, Data: []byte{9}}
	taken(t, "a fragment", b, p)
	r := raw{proto: 6, heads: []head{opts(0, 5, 2, 0, 0), opts(60), long(43, 3), part(0, false, 7), opts(60)}, data: count(30)}
	taken(t, "all kinds of headers", r.bytes(), whole(r))
}

func TestParseShort(t *testing.T) {
	b := raw{proto: 59}.bytes()
	for n := range 40 {
		refused(t, "short", b[:n], api.ErrShort)
		refused(t, "bytes 0", make([]byte, n), api.ErrShort)
	}
	refused(t, "no bytes", nil, api.ErrShort)
	taken(t, "40 bytes", b, whole(raw{proto: 59}))
	taken(t, "40 bytes of UDP, which is no fragment", raw{}.bytes(), whole(raw{}))
	refused(t, "40 bytes 0", make([]byte, 40), api.ErrVer)
}

func TestParseVersion(t *testing.T) {
	for v := range 16 {
		b := raw{data: count(4)}.bytes()
		for low := range 16 {
			b[0] = byte(v<<4 | low)
			if v == 6 {
				taken(t, "6", b, ordinary())
			} else {
				refused(t, "a version", b, api.ErrVer)
			}
		}
	}
}

func TestParseLength(t *testing.T) {
	for _, n := range []int{0, 1, 8, 255, 256, 1400, 65534, 65535} {
		r := raw{data: count(n)}
		taken(t, "just as much", r.bytes(), whole(r))
		r.tail = count(300)
		taken(t, "with more behind", r.bytes(), whole(r))
		if n < 65535 {
			refused(t, "one past", raw{data: count(n), more: 1}.bytes(), api.ErrLen)
			refused(t, "the greatest", raw{data: count(n), more: 65535 - n}.bytes(), api.ErrLen)
		}
		if n > 0 {
			b := raw{data: count(n)}.bytes()
			refused(t, "one missing", b[:len(b)-1], api.ErrLen)
			refused(t, "all missing", b[:40], api.ErrLen)
			taken(t, "one less", raw{data: count(n), more: -1}.bytes(), whole(raw{data: count(n - 1)}))
		}
	}
	b := raw{heads: []head{opts(60)}, more: -8, data: count(8)}.bytes()
	taken(t, "headers count", b, whole(raw{heads: []head{opts(60)}}))
	b = raw{heads: []head{opts(60)}, more: -9, data: count(8)}.bytes()
	refused(t, "a header that reaches past the length, not past the bytes", b, api.ErrHead)
}

func TestParseHop(t *testing.T) {
	refused(t, "no hops", raw{hop: -1, data: count(4)}.bytes(), api.ErrHop)
	for _, hop := range []int{1, 2, 127, 128, 255} {
		r := raw{hop: hop, data: count(4)}
		taken(t, "hops", r.bytes(), whole(r))
	}
}

func TestParseProtocols(t *testing.T) {
	for proto := 1; proto < 256; proto++ {
		if proto == 43 || proto == 44 || proto == 60 {
			continue
		}
		for _, heads := range [][]head{nil, {opts(0)}, {opts(60), way(1, 0)}} {
			r := raw{proto: proto, heads: heads, data: count(3)}
			taken(t, "a protocol", r.bytes(), whole(r))
		}
	}
}

func TestParseHeads(t *testing.T) {
	for _, h := range []head{opts(0), long(0, 256), long(43, 1), long(43, 9), opts(60), long(60, 2), part(0, false, 3)} {
		for _, ahead := range [][]head{nil, {opts(60)}} {
			if h.kind == 0 && ahead != nil {
				continue
			}
			r := raw{heads: append(ahead, h), data: count(4)}
			taken(t, "all there", r.bytes(), whole(r))
			size := len(h.bytes)
			for _, n := range []int{0, 1, 2, 3, 7, size - 1} {
				if n < size {
					r.more, r.data = n-size, nil
					refused(t, "not all there", r.bytes(), api.ErrHead)
					r.tail = make([]byte, 3000)
					refused(t, "not all there, and bytes behind the packet", r.bytes(), api.ErrHead)
				}
			}
		}
	}
}

func TestParseMany(t *testing.T) {
	for _, first := range []head{opts(0), opts(60), way(1, 0), part(0, false, 0)} {
		for n := range 8 {
			r := raw{heads: append([]head{first}, times(n, opts(60))...), data: count(20)}
			taken(t, "as many as may be", r.bytes(), whole(r))
		}
		for _, last := range []head{opts(60), opts(0), part(3, true, 0), part(0, false, 0), way(0, 1), {60, nil}, {44, count(7)}, {0, []byte{1}}} {
			heads := append([]head{first}, times(7, opts(60))...)
			refused(t, "one more", raw{heads: append(heads, last)}.bytes(), api.ErrMany)
		}
	}
	r := raw{heads: append(times(7, opts(60)), part(3, true, 8)), data: count(16)}
	taken(t, "the eighth is a fragment's", r.bytes(), torn(r, 3, true, 8))
	refused(t, "the ninth is a fragment's", raw{heads: append(times(8, opts(60)), part(3, true, 8)), data: count(16)}.bytes(), api.ErrMany)
	r = raw{proto: 60, heads: append(times(7, opts(60)), part(3, false, 8)), data: count(16)}
	taken(t, "what is behind a fragment is not gone over", r.bytes(), torn(r, 3, false, 8))
}

// TestParseManyBehind: what is behind a fragment at the place 0 is a walk of its own.
func TestParseManyBehind(t *testing.T) {
	for n := range 12 {
		next, b := chain(17, count(8), times(n, opts(60))...)
		for _, ahead := range [][]head{nil, times(7, opts(60))} {
			r := raw{proto: next, heads: append(slices.Clone(ahead), part(0, true, 8)), data: b}
			if n <= 8 {
				taken(t, "as many as may be behind", r.bytes(), torn(r, 0, true, 8))
			} else {
				refused(t, "one more behind", r.bytes(), api.ErrHead)
			}
		}
	}
}

func TestParseEachHop(t *testing.T) {
	r := raw{heads: []head{opts(0)}, data: count(4)}
	taken(t, "the first", r.bytes(), whole(r))
	for _, ahead := range []head{opts(0), opts(60), way(1, 0), part(0, false, 0)} {
		refused(t, "the second", raw{heads: []head{ahead, opts(0)}, data: count(4)}.bytes(), api.ErrOpt)
		refused(t, "the third", raw{heads: []head{ahead, opts(60), opts(0)}, data: count(4)}.bytes(), api.ErrOpt)
		refused(t, "the second, not all there", raw{heads: []head{ahead, {0, []byte{0, 1, 0, 0, 0, 0, 0, 0}}}, data: count(4)}.bytes(), api.ErrHead)
	}
	for _, c := range optionCases {
		for _, kind := range []int{0, 60} {
			r := raw{heads: []head{opts(kind, c.options...)}, data: count(4)}
			if c.right {
				taken(t, c.name, r.bytes(), whole(r))
			} else {
				refused(t, c.name, r.bytes(), api.ErrOpt)
			}
		}
	}
}

func TestParseRoute(t *testing.T) {
	for _, ahead := range [][]head{nil, {opts(0)}, {part(0, false, 1)}} {
		for _, h := range []head{way(0, 0), way(0, 1), way(1, 1), way(2, 255), way(255, 1)} {
			refused(t, "a route", raw{heads: append(slices.Clone(ahead), h), data: count(4)}.bytes(), api.ErrRoute)
		}
		for _, h := range []head{way(1, 0), way(2, 0), way(255, 0)} {
			r := raw{heads: append(slices.Clone(ahead), h), data: count(4)}
			taken(t, "a route that is over", r.bytes(), whole(r))
		}
	}
}

func TestParseFragment(t *testing.T) {
	for _, ahead := range [][]head{nil, {opts(0)}, {opts(60), way(2, 0)}} {
		for _, place := range []int{0, 1, 2, 31, 32, 4095, 4096, 8190} {
			for _, more := range []bool{false, true} {
				for _, id := range []uint32{0, 1, 0x12345678, 1<<32 - 1} {
					r := raw{heads: append(slices.Clone(ahead), part(place, more, id)), data: count(8)}
					want := whole(r)
					if place > 0 || more {
						want = torn(r, place, more, id)
					}
					taken(t, "a fragment's header", r.bytes(), want)
				}
			}
		}
	}
	r := raw{heads: []head{{44, make([]byte, 8)}}, data: count(4)}
	taken(t, "a header that cuts nothing off", r.bytes(), whole(r))
	r.heads = []head{{44, []byte{0, 0, 0, 6, 0, 0, 0, 0}}}
	taken(t, "the bits between place and More", r.bytes(), whole(r))
	r.heads = []head{{44, []byte{0, 0, 0, 8, 0, 0, 0, 0}}}
	taken(t, "the lowest bit of the place", r.bytes(), torn(r, 1, false, 0))
}

func TestParseTwoFragments(t *testing.T) {
	for _, then := range []head{part(0, false, 0), part(0, true, 0), part(1, false, 0), part(1, true, 0)} {
		refused(t, "two", raw{heads: []head{part(0, false, 0), then}, data: count(8)}.bytes(), api.ErrOpt)
		refused(t, "one between", raw{heads: []head{part(0, false, 0), opts(60), then}, data: count(8)}.bytes(), api.ErrOpt)
		refused(t, "ahead and behind", raw{heads: []head{opts(0), part(0, false, 0), then}, data: count(8)}.bytes(), api.ErrOpt)
		refused(t, "the second not all there", raw{heads: []head{part(0, false, 0), then}, more: -1}.bytes(), api.ErrHead)
		refused(t, "behind a fragment at the place 0", raw{heads: []head{part(0, true, 0), then}, data: count(8)}.bytes(), api.ErrHead)
		_, b := chain(17, count(8), then)
		r := raw{proto: 44, heads: []head{part(1, true, 0)}, data: b}
		taken(t, "behind a fragment at another place", r.bytes(), torn(r, 1, true, 0))
	}
}

func TestParseMore(t *testing.T) {
	for n := range 34 {
		for _, place := range []int{0, 1, 100} {
			for _, ahead := range [][]head{nil, {opts(0)}} {
				heads := append(slices.Clone(ahead), part(place, true, 5))
				r := raw{proto: 59, heads: heads, data: count(n), tail: count(n % 5)}
				if n%8 == 0 {
					taken(t, "More and a multiple of 8", r.bytes(), torn(r, place, true, 5))
				} else {
					refused(t, "More and no multiple of 8", r.bytes(), api.ErrLen)
				}
			}
		}
		r := raw{proto: 59, heads: []head{part(3, false, 5)}, data: count(n)}
		taken(t, "the last one", r.bytes(), torn(r, 3, false, 5))
		r = raw{proto: 59, heads: []head{part(0, false, 5)}, data: count(n)}
		taken(t, "no fragment", r.bytes(), whole(r))
	}
}

func TestParseOver(t *testing.T) {
	for _, c := range []struct {
		place, n int
		more     bool
		want     api.Errno
	}{
		{8191, 0, false, api.OK},
		{8191, 7, false, api.OK},
		{8191, 8, false, api.ErrOver},
		{8191, 1400, false, api.ErrOver},
		{8190, 15, false, api.OK},
		{8190, 16, false, api.ErrOver},
		{1, 65526, false, api.OK},
		{1, 65527, false, api.OK},
		{2, 65519, false, api.OK},
		{2, 65520, false, api.ErrOver},
		{8191, 0, true, api.OK},
		{8190, 8, true, api.OK},
		{8191, 8, true, api.ErrOver},
		{4096, 32760, true, api.OK},
		{4096, 32768, true, api.ErrOver},
		{8191, 9, true, api.ErrLen},
	} {
		r := raw{heads: []head{part(c.place, c.more, 1)}, data: count(c.n)}
		if c.want != api.OK {
			refused(t, "past the end", r.bytes(), c.want)
		} else {
			taken(t, "up to the end", r.bytes(), torn(r, c.place, c.more, 1))
		}
	}
	r := raw{heads: []head{opts(0), part(8191, false, 1)}, data: count(7)}
	taken(t, "headers ahead do not count", r.bytes(), torn(r, 8191, false, 1))
	r = raw{heads: []head{part(0, true, 1)}, data: count(65520)}
	taken(t, "the longest at the place 0", r.bytes(), torn(r, 0, true, 1))
}

// TestParseAllHeads: the first fragment has all headers of its datagram in it.
func TestParseAllHeads(t *testing.T) {
	least := map[int]int{6: 20, 17: 8, 1: 8, 58: 8}
	for _, proto := range []int{6, 17, 1, 58, 59, 132, 255, 2, 7, 16, 18, 57} {
		for n := range 4 {
			for _, behind := range [][]head{nil, {opts(60)}, {way(2, 0), long(60, 2)}, times(8, opts(60))} {
				for _, ahead := range [][]head{nil, {opts(0), opts(60)}} {
					next, b := chain(proto, count(n*8), behind...)
					r := raw{proto: next, heads: append(slices.Clone(ahead), part(0, true, 4)), data: b}
					if n*8 >= least[proto] {
						taken(t, "all there", r.bytes(), torn(r, 0, true, 4))
					} else {
						refused(t, "not all there", r.bytes(), api.ErrHead)
					}
					r.heads[len(ahead)] = part(1, true, 4)
					taken(t, "at another place", r.bytes(), torn(r, 1, true, 4))
				}
			}
		}
	}
	for name, h := range map[string]head{"for each hop": opts(0), "a fragment's": part(0, false, 0), "an option": opts(60, 64, 4), "a route": way(0, 0), "a route that goes on": way(1, 1), "longer than it is": {60, []byte{0, 9, 0, 0, 0, 0, 0, 0}}} {
		for _, behind := range [][]head{{h}, {opts(60), h}} {
			next, b := chain(59, count(24), behind...)
			r := raw{heads: []head{part(0, true, 4)}, data: b}
			r.proto = next
			if next == 0 {
				continue // raw takes 0 as 17
			}
			refused(t, name, r.bytes(), api.ErrHead)
			r.heads[0] = part(2, true, 4)
			taken(t, name+" at another place", r.bytes(), torn(r, 2, true, 4))
			r.heads[0] = part(2, false, 4)
			taken(t, name+" in the last one", r.bytes(), torn(r, 2, false, 4))
		}
	}
	b := raw{heads: []head{part(0, true, 4)}, data: make([]byte, 16)}.bytes()
	b[40] = 0
	refused(t, "0 just behind", b, api.ErrHead)
	refused(t, "nothing of a header", raw{proto: 60, heads: []head{part(0, true, 4)}}.bytes(), api.ErrHead)
	refused(t, "the length ahead of the headers", raw{proto: 6, heads: []head{part(0, true, 4)}, data: count(19)}.bytes(), api.ErrLen)
	for _, proto := range []int{6, 17, 1, 58} {
		r := raw{proto: proto, heads: []head{part(0, false, 4)}, data: count(1)}
		taken(t, "what is no fragment is not asked", r.bytes(), whole(r))
	}
}

// faults are what may be wrong with a packet, in the order in which P4.2 tells of it. Those of the walk stand in headers one behind the other, so that the first one of them is met first.
var faults = []struct {
	name string
	want api.Errno
	make func(r *raw)
}{
	{"short", api.ErrShort, func(r *raw) { r.cut = 39 }},
	{"version", api.ErrVer, func(r *raw) { r.version = 4 }},
	{"length", api.ErrLen, func(r *raw) { r.more = 1 }},
	{"hop", api.ErrHop, func(r *raw) { r.hop = -1 }},
	{"option", api.ErrOpt, func(r *raw) { r.heads = append(r.heads, opts(60, 64, 0)) }},
	{"route", api.ErrRoute, func(r *raw) { r.heads = append(r.heads, way(0, 0)) }},
	{"each hop", api.ErrOpt, func(r *raw) { r.heads = append(r.heads, opts(60), opts(0)) }},
	{"many", api.ErrMany, func(r *raw) { r.heads = append(r.heads, times(9, opts(60))...) }},
	{"head", api.ErrHead, func(r *raw) { r.heads = append(r.heads, head{60, []byte{0, 255}}) }},
	{"More", api.ErrLen, func(r *raw) { r.heads = append(r.heads, part(0, true, 1)) }},
	{"over", api.ErrOver, func(r *raw) { r.heads, r.data = append(r.heads, part(8191, false, 1)), count(12) }},
	{"all heads", api.ErrHead, func(r *raw) { r.heads, r.data = append(r.heads, part(0, true, 1)), nil }},
}

func TestParseOrder(t *testing.T) {
	for i, first := range faults {
		for _, then := range faults[i:] {
			r := raw{data: count(12)}
			first.make(&r)
			if first.name != "More" && first.name != "over" || then.name == first.name {
				then.make(&r) // no two fragment's headers are read
			}
			refused(t, first.name+" ahead of "+then.name, r.bytes(), first.want)
		}
	}
	both := raw{heads: []head{part(8191, true, 1)}, data: count(12)}
	refused(t, "More ahead of over", both.bytes(), api.ErrLen)
	for _, h := range []head{opts(60, 64, 0), way(0, 0), {60, []byte{0, 255}}} {
		both = raw{heads: []head{h, part(0, true, 1)}, data: count(12)}
		_, want := plainParse(both.bytes())
		refused(t, "the walk ahead of what is behind it", both.bytes(), want)
	}
}

// plainParse is P4.2 in its own words.
func plainParse(b []byte) (api.Ip, api.Errno) {
	none := api.Ip{}
	if len(b) < 40 {
		return none, api.ErrShort
	}
	if b[0]/16 != 6 {
		return none, api.ErrVer
	}
	size := int(b[4])*256 + int(b[5])
	if 40+size > len(b) {
		return none, api.ErrLen
	}
	if b[7] == 0 {
		return none, api.ErrHop
	}
	w, e := plainWalk(int(b[6]), b[40:40+size], false)
	if e != api.OK {
		return none, e
	}
	word := func(at int) uint64 { return binary.BigEndian.Uint64(b[at:]) }
	p := api.Ip{Fam: 6, Proto: w.proto, Hop: int(b[7]), Exts: w.exts, Data: b[40+w.at : 40+size]}
	p.Src = api.Addr{Fam: 6, Hi: word(8), Lo: word(16)}
	p.Dst = api.Addr{Fam: 6, Hi: word(24), Lo: word(32)}
	if !w.frag {
		return p, api.OK
	}
	p.Frag, p.Id, p.Off, p.More = true, w.id, w.off, w.more
	if p.More && len(p.Data)%8 > 0 {
		return none, api.ErrLen
	}
	if p.Off+len(p.Data) > 65535 {
		return none, api.ErrOver
	}
	if p.Off == 0 && !plainHeads(p.Proto, p.Data) {
		return none, api.ErrHead
	}
	return p, api.OK
}

// plainHeads tells whether the headers are all there.
func plainHeads(proto int, data []byte) bool {
	w, e := plainWalk(proto, data, true)
	behind := len(data) - w.at
	return e == api.OK && !(w.proto == 6 && behind < 20) && !((w.proto == 17 || w.proto == 1 || w.proto == 58) && behind < 8)
}

// asPlain checks that Parse answers what P4.2's own words do.
func asPlain(t *testing.T, b []byte) api.Errno {
	t.Helper()
	p, e := ip6.Parse(b)
	want, wantE := plainParse(b)
	if e != wantE || !same(p, want) {
		t.Fatalf("Parse(%v): %v %v, want %v %v", b, p, e, want, wantE)
	}
	return e
}

// someRaw is a packet of which much is ordinary, and some of it not.
func someRaw(r *rand.Rand) raw {
	one := func(n int) bool { return r.Intn(n) == 0 }
	p := raw{proto: []int{6, 17, 1, 58, 59, 1 + r.Intn(255)}[r.Intn(6)], heads: someHeads(r, r.Intn(4)*r.Intn(4)), data: make([]byte, r.Intn(5)*8)}
	if one(2) {
		p.heads = append([]head{opts(0, someOptions(r)...)}, p.heads...)
	}
	if one(3) {
		p.data = make([]byte, r.Intn(50))
	}
	if one(3) {
		p.heads = p.heads[:min(len(p.heads), 2)]
		p.heads = append(p.heads, part(max(0, r.Intn(3)-1), true, r.Uint32()))
		p.proto, p.data = chain(p.proto, p.data, someHeads(r, r.Intn(3))...)
	}
	if one(30) {
		p.heads = append(p.heads[:min(len(p.heads), 1)], part(8191-r.Intn(4), one(2), 1))
	}
	r.Read(p.data[:r.Intn(len(p.data)+1)])
	if one(4) {
		p.tail = make([]byte, r.Intn(30))
	}
	if one(20) {
		p.hop = -1
	}
	if one(20) {
		p.more = r.Intn(20) - 10
	}
	return p
}

func TestParseAny(t *testing.T) {
	r := rand.New(rand.NewSource(8))
	met := map[api.Errno]int{}
	for range 200000 {
		b := someRaw(r).bytes()
		copy(b[8:], ends[r.Intn(4):])
		if r.Intn(4) == 0 {
			b[r.Intn(len(b))] ^= byte(1 << r.Intn(8))
		}
		if r.Intn(20) == 0 {
			b = b[:r.Intn(len(b)+1)]
		}
		met[asPlain(t, b)]++
	}
	for _, e := range []api.Errno{api.OK, api.ErrShort, api.ErrVer, api.ErrHead, api.ErrLen, api.ErrHop, api.ErrOpt, api.ErrRoute, api.ErrOver, api.ErrMany} {
		if met[e] < 100 {
			t.Errorf("%v was met %d times alone", e, met[e])
		}
	}
}

func FuzzParse(f *testing.F) {
	f.Add([]byte{})
	f.Add(raw{data: count(4)}.bytes())
	f.Add(raw{heads: []head{opts(0), way(2, 0), part(0, true, 3)}, data: count(16), tail: count(3)}.bytes())
	f.Fuzz(func(t *testing.T, b []byte) {
		asPlain(t, b)
		if len(b) >= 40 {
			b = slices.Clone(b)
			b[0], b[7] = 0x60, b[7]|1
			binary.BigEndian.PutUint16(b[4:], uint16(min(len(b)-40, 65535)))
			asPlain(t, b)
		}
	})
}

// P4.5

func TestBehind(t *testing.T) {
	r := rand.New(rand.NewSource(9))
	for range 20000 {
		raw := someRaw(r)
		raw.tail, raw.more = nil, min(raw.more, 0)
		b := raw.bytes()
		size := int(binary.BigEndian.Uint16(b[4:]))
		if 40+size > len(b) {
			continue // a length that was turned below 0
		}
		p, e := ip6.Parse(b[:40+size])
		for _, behind := range [][]byte{{0}, {1}, count(7), make([]byte, 3000), bytes.Repeat([]byte{255}, 100)} {
			q, f := ip6.Parse(append(slices.Clone(b[:40+size]), behind...))
			if f != e || !same(p, q) {
				t.Fatalf("%v behind %v: %v %v, want %v %v", behind, b[:40+size], q, f, p, e)
			}
		}
	}
}

// P4.6

func TestFound(t *testing.T) {
	r := rand.New(rand.NewSource(10))
	found := 0
	for range 50000 {
		raw := someRaw(r)
		raw.tail, raw.more = nil, 0
		b := raw.bytes()
		p, e := ip6.Parse(b)
		if e != api.OK || slices.Contains(p.Exts, 0) || slices.Contains(p.Exts, 44) {
			continue
		}
		proto, exts, rest, e := ip6.Walk(int(b[6]), b[40:])
		if proto != p.Proto || !slices.Equal(exts, p.Exts) || !bytes.Equal(rest, p.Data) || e != api.OK {
			t.Fatalf("Walk of %v: %v %v %v %v, want %v", b, proto, exts, rest, e, p)
		}
		if len(exts) > 0 {
			found++
		}
	}
	if found < 1000 {
		t.Error("extension headers were found", found, "times alone")
	}
	for n := range 9 {
		b := raw{heads: times(n, opts(60)), data: count(3)}.bytes()
		p, e := ip6.Parse(b)
		_, exts, _, f := ip6.Walk(int(b[6]), b[40:])
		if e != api.OK || f != api.OK || len(exts) != n || !slices.Equal(exts, p.Exts) {
			t.Error(n, "headers:", p, e, exts, f)
		}
	}
}

// R4

func TestParseShares(t *testing.T) {
	for _, r := range []raw{{}, {data: count(8)}, {data: count(8), tail: count(9)}, {heads: []head{opts(0), opts(60)}, data: count(16)}, {heads: []head{opts(60), part(0, true, 7)}, data: count(16)}, {heads: []head{part(3, false, 7)}, data: count(5)}, {heads: times(8, way(1, 0)), data: count(3)}} {
		b := r.bytes()
		room := append(slices.Clone(b), 77, 77, 77)
		b = room[:len(b)]
		before := slices.Clone(room)
		p, _ := ip6.Parse(b)
		want, _ := ip6.Parse(b)
		kept := want
		kept.Data, kept.Exts = slices.Clone(want.Data), slices.Clone(want.Exts)
		for i := range p.Data {
			p.Data[i] ^= 255
		}
		for i := range p.Exts {
			p.Exts[i] = -1
		}
		_, _ = append(p.Data, 1, 2, 3), append(p.Exts, 1)
		if !bytes.Equal(room, before) {
			t.Error("an argument was written into", r)
		}
		for i := range room {
			room[i] ^= 255
		}
		if !same(want, kept) {
			t.Error("an argument is kept, or an answer is shared", r)
		}
	}
	for _, f := range faults {
		r := raw{data: count(12)}
		f.make(&r)
		b := r.bytes()
		before := slices.Clone(b)
		ip6.Parse(b)
		if !bytes.Equal(b, before) {
			t.Error("an argument that is refused was written into", f.name)
		}
	}
}
