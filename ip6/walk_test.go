package ip6_test

import (
	"bytes"
	"math"
	"math/rand"
	"slices"
	"testing"

	"stockade/api"
	"stockade/ip6"
)

// head is an extension header as it is written by hand: its first byte is put in by chain.
type head struct {
	kind  int
	bytes []byte
}

// chain are headers, each with the next one's kind in it, and what is behind them; and the first one's kind.
func chain(proto int, data []byte, heads ...head) (int, []byte) {
	next, all := proto, slices.Clone(data)
	for _, h := range slices.Backward(heads) {
		b := slices.Clone(h.bytes)
		if len(b) > 0 {
			b[0] = byte(next)
		}
		next, all = h.kind, append(b, all...)
	}
	return next, all
}

// opts is a header of 0 or 60 with options, which must fill it, and room for the two bytes ahead of them.
func opts(kind int, options ...byte) head {
	b := append([]byte{0, 0}, options...)
	b = append(b, make([]byte, (8-len(b)%8)%8)...)
	b[1] = byte(len(b)/8 - 1)
	return head{kind, b}
}

// long is a header of so many eights of bytes that may be (of 43 of a kind that may be).
func long(kind, eights int) head {
	b := make([]byte, eights*8)
	b[1] = byte(eights - 1)
	if kind == 43 {
		b[2] = 2
	}
	return head{kind, b}
}

// way is a header of 43.
func way(kind, left byte) head { return head{43, []byte{0, 0, kind, left, 9, 9, 9, 9}} }

// part is a header of 44, with 1 in all bits that have no name.
func part(place int, more bool, id uint32) head {
	n := place<<3 | 6
	if more {
		n |= 1
	}
	return head{44, []byte{0, 255, byte(n >> 8), byte(n), byte(id >> 24), byte(id >> 16), byte(id >> 8), byte(id)}}
}

// times are n headers, all of them h.
func times(n int, h head) []head { return slices.Repeat([]head{h}, n) }

// kinds are the kinds of headers, in order.
func kinds(heads []head) []int {
	list := []int{}
	for _, h := range heads {
		list = append(list, h.kind)
	}
	return list
}

// count are n bytes that count from 1 on.
func count(n int) []byte {
	b := make([]byte, n)
	for i := range b {
		b[i] = byte(i + 1)
	}
	return b
}

// plain is a walk in the chapter's own words, by places and not by pieces.
type plain struct {
	proto, at  int
	exts       []int
	frag, more bool
	off        int
	id         uint32
}

// plainWalk is the walk over b; behind tells that it lies behind a fragment's header, which then is not to be ended at.
func plainWalk(next int, b []byte, behind bool) (plain, api.Errno) {
	w := plain{proto: next}
	for w.proto == 0 || w.proto == 43 || w.proto == 60 || w.proto == 44 {
		kind, left := w.proto, len(b)-w.at
		if len(w.exts)+1 > 8 {
			return plain{}, api.ErrMany
		}
		if kind != 44 && left < 2 || kind == 44 && left < 8 {
			return plain{}, api.ErrHead
		}
		end := w.at + 8
		if kind != 44 {
			end += int(b[w.at+1]) * 8
		}
		if end > len(b) {
			return plain{}, api.ErrHead
		}
		if kind == 0 && (behind || len(w.exts) != 0) {
			return plain{}, api.ErrOpt
		}
		if (kind == 0 || kind == 60) && !plainOptions(b, w.at+2, end) {
			return plain{}, api.ErrOpt
		}
		if kind == 43 && (b[w.at+3] > 0 || b[w.at+2] == 0) {
			return plain{}, api.ErrRoute
		}
		if kind == 44 && (behind || slices.Contains(w.exts, 44)) {
			return plain{}, api.ErrOpt
		}
		w.proto, w.exts = int(b[w.at]), append(w.exts, kind)
		if kind == 44 {
			w.off, w.more = (int(b[w.at+2])*256+int(b[w.at+3]))/8*8, b[w.at+3]%2 == 1
			w.id = uint32(b[w.at+4])<<24 + uint32(b[w.at+5])<<16 + uint32(b[w.at+6])<<8 + uint32(b[w.at+7])
			w.frag = w.off > 0 || w.more
		}
		w.at = end
		if w.frag {
			break
		}
	}
	return w, api.OK
}

// plainOptions tells whether all options of b from at to end may be.
func plainOptions(b []byte, at, end int) bool {
	for at < end {
		if b[at] == 0 {
			at++
			continue
		}
		if b[at] >= 64 || at+1 >= end || at+2+int(b[at+1]) > end {
			return false
		}
		at += 2 + int(b[at+1])
	}
	return true
}

// walked checks what Walk finds.
func walked(t *testing.T, name string, next int, b []byte, proto int, exts []int, rest []byte) {
	t.Helper()
	n, l, d, e := ip6.Walk(next, b)
	if n != proto || !slices.Equal(l, exts) || !bytes.Equal(d, rest) || e != api.OK {
		t.Errorf("%s: Walk(%d, %v): %v %v %v %v, want %v %v %v", name, next, b, n, l, d, e, proto, exts, rest)
	}
}

// unwalked checks that Walk answers an error, and nothing beside it.
func unwalked(t *testing.T, name string, next int, b []byte, want api.Errno) {
	t.Helper()
	n, l, d, e := ip6.Walk(next, b)
	if n != 0 || len(l) != 0 || len(d) != 0 || e != want {
		t.Errorf("%s: Walk(%d, %v): %v %v %v %v, want %v", name, next, b, n, l, d, e, want)
	}
}

// P4.1

func TestWalk(t *testing.T) {
	walked(t, "the chapter's example", 60, []byte{17, 0, 1, 4, 0, 0, 0, 0, 9}, 17, []int{60}, []byte{9})
	heads := []head{opts(60, 1, 4, 9, 9, 9, 9), way(2, 0), long(60, 3), long(43, 2), opts(60)}
	next, b := chain(6, count(5), heads...)
	walked(t, "several", next, b, 6, []int{60, 43, 60, 43, 60}, count(5))
	next, b = chain(59, nil, heads...)
	walked(t, "several, and nothing behind", next, b, 59, []int{60, 43, 60, 43, 60}, nil)
}

func TestWalkProtocols(t *testing.T) {
	for next := range 256 {
		if next == 0 || next == 43 || next == 44 || next == 60 {
			continue
		}
		for _, data := range [][]byte{nil, {}, {60}, count(8), make([]byte, 40)} {
			walked(t, "a protocol", next, data, next, nil, data)
		}
		_, b := chain(next, count(3), opts(60))
		walked(t, "a protocol behind a header", 60, b, next, []int{60}, count(3))
	}
	for _, next := range []int{math.MinInt, -256, -212, -196, -60, -44, -43, -1, 256, 256 + 43, 256 + 44, 256 + 60, 1 << 16, 1<<32 + 60, math.MaxInt} {
		walked(t, "no byte", next, count(9), next, nil, count(9))
		walked(t, "no byte, and nothing", next, nil, next, nil, nil)
	}
}

func TestWalkHeads(t *testing.T) {
	for _, kind := range []int{43, 60} {
		for _, eights := range []int{1, 2, 3, 128, 255, 256} {
			_, b := chain(17, nil, long(kind, eights))
			for _, n := range []int{0, 1, 2, 3, 7, len(b) - 8, len(b) - 2, len(b) - 1} {
				if n < len(b) {
					unwalked(t, "not all there", kind, b[:n], api.ErrHead)
				}
			}
			walked(t, "all there", kind, b, 17, []int{kind}, nil)
			walked(t, "one more than all", kind, append(b, 7), 17, []int{kind}, []byte{7})
		}
		next, b := chain(17, nil, opts(60), long(kind, 2))
		for n := 8; n < len(b); n++ {
			unwalked(t, "the second one not all there", next, b[:n], api.ErrHead)
		}
		walked(t, "both there", next, b, 17, []int{60, kind}, nil)
	}
	unwalked(t, "no bytes at all", 60, nil, api.ErrHead)
	unwalked(t, "no bytes at all of a route", 43, nil, api.ErrHead)
}

func TestWalkMany(t *testing.T) {
	for n := range 9 {
		for _, h := range []head{opts(60), way(1, 0), long(60, 2)} {
			next, b := chain(17, count(4), times(n, h)...)
			walked(t, "as many as may be", next, b, 17, kinds(times(n, h)), count(4))
		}
	}
	for _, h := range []head{opts(60), way(1, 0), way(0, 1), opts(60, 200, 0), opts(0), part(0, false, 0), {60, nil}, {43, nil}, {60, []byte{0}}, {44, count(7)}, {0, nil}} {
		next, b := chain(17, nil, append(times(8, opts(60)), h)...)
		unwalked(t, "one more", next, b, api.ErrMany)
	}
	next, b := chain(17, count(4), times(20, opts(60))...)
	unwalked(t, "many more", next, b, api.ErrMany)
	next, b = chain(17, nil, append(times(7, opts(60)), way(0, 0))...)
	unwalked(t, "the eighth may not be", next, b, api.ErrRoute)
	next, b = chain(17, nil, append(times(7, opts(60)), head{60, []byte{17}})...)
	unwalked(t, "the eighth is not there", next, b, api.ErrHead)
}

// TestWalkBehind: Walk stands behind a fragment's header.
func TestWalkBehind(t *testing.T) {
	for _, h := range []head{opts(0), opts(0, 1, 4), opts(0, 255), long(0, 2), part(0, false, 0), part(0, true, 0), part(5, false, 7), part(8191, true, 1)} {
		next, b := chain(17, count(20), h)
		unwalked(t, "the first", next, b, api.ErrOpt)
		unwalked(t, "the first, all of it just there", next, b[:len(h.bytes)], api.ErrOpt)
		for n := range len(h.bytes) {
			unwalked(t, "the first, not all there", next, b[:n], api.ErrHead)
		}
		for _, ahead := range []head{opts(60), way(3, 0)} {
			next, b = chain(17, count(20), ahead, h)
			unwalked(t, "the second", next, b, api.ErrOpt)
			unwalked(t, "the second, not all there", next, b[:8+len(h.bytes)-1], api.ErrHead)
		}
	}
}

// optionCases are options of 0 and of 60, which fill a header.
var optionCases = []struct {
	name    string
	options []byte
	right   bool
}{
	{"bytes 0", []byte{0, 0, 0, 0, 0, 0}, true},
	{"one that fills it", []byte{1, 4, 9, 9, 9, 9}, true},
	{"a length of 0", []byte{1, 0, 1, 0, 1, 0}, true},
	{"a byte 0 ahead", []byte{0, 1, 3, 9, 9, 9}, true},
	{"a byte 0 behind", []byte{1, 3, 9, 9, 9, 0}, true},
	{"bytes 0 between", []byte{1, 0, 0, 0, 5, 0}, true},
	{"what is in an option is none", []byte{1, 4, 255, 255, 64, 128}, true},
	{"the greatest kind", []byte{63, 4, 0, 0, 0, 0}, true},
	{"the kind 32", []byte{32, 0, 5, 2, 0, 0}, true},
	{"up to the end of two eights", []byte{1, 12, 0, 0, 0, 0, 0, 0, 0, 0, 0, 0, 0, 0}, true},
	{"behind the first eight", []byte{0, 0, 0, 0, 0, 0, 1, 6, 0, 0, 0, 0, 0, 0}, true},
	{"the longest", append([]byte{1, 255}, make([]byte, 261)...), true},

	{"one past the header", []byte{1, 5, 9, 9, 9, 9}, false},
	{"one past the header behind a byte 0", []byte{0, 1, 4, 9, 9, 9}, false},
	{"one past the header behind another", []byte{1, 0, 1, 3, 9, 9}, false},
	{"one past two eights", []byte{1, 13, 0, 0, 0, 0, 0, 0, 0, 0, 0, 0, 0, 0}, false},
	{"far past the header", []byte{1, 255, 0, 0, 0, 0}, false},
	{"no room for a length", []byte{0, 0, 0, 0, 0, 1}, false},
	{"no room for a length behind another", []byte{1, 3, 0, 0, 0, 5}, false},
	{"no room for a length, of the greatest kind", []byte{0, 0, 0, 0, 0, 63}, false},
	{"past the header at its end", []byte{0, 0, 0, 0, 1, 1}, false},
	{"the kind 64", []byte{64, 4, 0, 0, 0, 0}, false},
	{"the kind 128", []byte{128, 4, 0, 0, 0, 0}, false},
	{"the kind 192", []byte{192, 4, 0, 0, 0, 0}, false},
	{"the kind 255", []byte{255, 0, 0, 0, 0, 0}, false},
	{"the kind 65", []byte{0, 65, 0, 0, 0, 0}, false},
	{"the kind 129 behind another", []byte{1, 2, 0, 0, 129, 0}, false},
	{"the kind 194 and too long", []byte{194, 9, 0, 0, 0, 0}, false},
	{"the kind 64 with no room", []byte{0, 0, 0, 0, 0, 64}, false},
	{"the kind 64 in a second eight", []byte{0, 0, 0, 0, 0, 0, 64, 6, 0, 0, 0, 0, 0, 0}, false},
}

func TestWalkOptions(t *testing.T) {
	for _, c := range optionCases {
		h := opts(60, c.options...)
		_, b := chain(17, count(9), h)
		_, after := chain(17, count(9), way(4, 0), h)
		if c.right {
			walked(t, c.name, 60, b, 17, []int{60}, count(9))
			walked(t, c.name+", the second", 43, after, 17, []int{43, 60}, count(9))
		} else {
			unwalked(t, c.name, 60, b, api.ErrOpt)
			unwalked(t, c.name+", the second", 43, after, api.ErrOpt)
		}
	}
	for kind := range 256 {
		_, b := chain(17, nil, opts(60, byte(kind), 0, 0, 0, 0, 0))
		if kind < 64 {
			walked(t, "a kind", 60, b, 17, []int{60}, nil)
		} else {
			unwalked(t, "a kind", 60, b, api.ErrOpt)
		}
	}
}

func TestWalkRoute(t *testing.T) {
	for kind := range 256 {
		for _, left := range []int{0, 1, 2, 127, 128, 255} {
			_, b := chain(17, count(3), way(byte(kind), byte(left)))
			if kind != 0 && left == 0 {
				walked(t, "a route", 43, b, 17, []int{43}, count(3))
			} else {
				unwalked(t, "a route", 43, b, api.ErrRoute)
			}
		}
	}
	unwalked(t, "a route that is not all there", 43, []byte{17, 1, 0, 1, 0, 0, 0, 0}, api.ErrHead)
	walked(t, "no options are looked at in a route", 43, []byte{17, 0, 255, 0, 255, 255, 255, 255}, 17, []int{43}, nil)
	next, b := chain(17, nil, opts(60, 64, 0), way(0, 0))
	unwalked(t, "an option ahead of a route", next, b, api.ErrOpt)
	next, b = chain(17, nil, way(0, 0), opts(60, 64, 0))
	unwalked(t, "a route ahead of an option", next, b, api.ErrRoute)
}

// someHeads are headers of which most may be.
func someHeads(r *rand.Rand, n int) []head {
	heads := []head{}
	for range n {
		switch r.Intn(12) {
		case 0:
			heads = append(heads, part(0, false, r.Uint32()))
		case 1:
			heads = append(heads, part(r.Intn(8192)>>r.Intn(14), r.Intn(2) == 0, r.Uint32()))
		case 2:
			heads = append(heads, opts(0, someOptions(r)...))
		case 3, 4, 5:
			heads = append(heads, way(byte(r.Intn(15)), byte(max(0, r.Intn(30)-27))))
		case 6:
			heads = append(heads, long([]int{43, 60}[r.Intn(2)], 1+r.Intn(4)))
		default:
			heads = append(heads, opts(60, someOptions(r)...))
		}
	}
	return heads
}

// someOptions fill a header; most of them may be.
func someOptions(r *rand.Rand) []byte {
	room := 6 + r.Intn(3)*8
	b := []byte{}
	for len(b) < room {
		n := r.Intn(room - len(b))
		if r.Intn(3) == 0 || len(b)+2+n > room {
			b = append(b, 0)
			continue
		}
		b = append(b, byte(1+r.Intn(63)), byte(n))
		b = append(b, count(n)...)
	}
	if r.Intn(12) == 0 {
		b[r.Intn(room)] = byte(r.Intn(256))
	}
	return b
}

// asPlainWalk checks that Walk answers what the chapter's own words do.
func asPlainWalk(t *testing.T, next int, b []byte) api.Errno {
	t.Helper()
	w, e := plainWalk(next, b, true)
	if e != api.OK {
		unwalked(t, "some bytes", next, b, e)
	} else {
		walked(t, "some bytes", next, b, w.proto, w.exts, b[w.at:])
	}
	return e
}

func TestWalkAny(t *testing.T) {
	r := rand.New(rand.NewSource(7))
	met := map[api.Errno]int{}
	for range 100000 {
		next, b := chain([]int{6, 17, 1, 58, 59, 0, 44, r.Intn(256)}[r.Intn(8)], count(r.Intn(30)), someHeads(r, r.Intn(4)*r.Intn(4))...)
		if r.Intn(4) == 0 && len(b) > 0 {
			b[r.Intn(len(b))] ^= byte(1 << r.Intn(8))
		}
		if r.Intn(8) == 0 {
			b = b[:r.Intn(len(b)+1)]
		}
		met[asPlainWalk(t, next, b)]++
	}
	for _, e := range []api.Errno{api.OK, api.ErrMany, api.ErrHead, api.ErrOpt, api.ErrRoute} {
		if met[e] < 100 {
			t.Errorf("%v was met %d times alone", e, met[e])
		}
	}
}

func FuzzWalk(f *testing.F) {
	f.Add(60, []byte{17, 0, 1, 4, 0, 0, 0, 0, 9})
	next, b := chain(17, count(9), way(2, 0), opts(60, 1, 2, 3, 4), part(0, false, 9))
	f.Add(next, b)
	f.Fuzz(func(t *testing.T, next int, b []byte) { asPlainWalk(t, next, b) })
}

// R4

func TestWalkShares(t *testing.T) {
	for _, heads := range [][]head{nil, {opts(60)}, {way(2, 0), opts(60, 1, 4, 9, 9, 9, 9)}, times(8, opts(60)), {part(0, false, 1)}, {way(0, 0)}} {
		next, b := chain(17, count(9), heads...)
		room := append(slices.Clone(b), 77, 77, 77)
		b = room[:len(b)]
		before := slices.Clone(room)
		_, exts, rest, _ := ip6.Walk(next, b)
		_, wantExts, wantRest, _ := ip6.Walk(next, b)
		keptExts, keptRest := slices.Clone(wantExts), slices.Clone(wantRest)
		for i := range exts {
			exts[i] = -1
		}
		for i := range rest {
			rest[i] ^= 255
		}
		_, _ = append(exts, 1), append(rest, 1, 2, 3)
		if !bytes.Equal(room, before) {
			t.Error("an argument was written into", heads)
		}
		for i := range room {
			room[i] ^= 255
		}
		if !slices.Equal(wantExts, keptExts) || !bytes.Equal(wantRest, keptRest) {
			t.Error("an argument is kept, or an answer is shared", heads)
		}
	}
}
