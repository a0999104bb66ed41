package frag_test

import (
	"math"
	"strconv"
	"testing"

	"stockade/api"
	"stockade/frag"
)

// P6.2: the chapter's example, in both families and both orders.
func TestExample(t *testing.T) {
	for _, fam := range families {
		first, second := piece(fam, 0, 8, true), piece(fam, 8, 2, false)
		f := wide(t)
		waits(t, "at 0", f, first)
		counts(t, "one of two", f, 1, 8)
		taken(t, "at 8", f, second, datagram(fam, 10))
		counts(t, "none is left", f, 0, 0)

		waits(t, "at 8", f, second)
		counts(t, "two of two", f, 1, 2)
		taken(t, "at 0", f, first, datagram(fam, 10))
		counts(t, "none is left", f, 0, 0)
	}
}

// A packet that is no fragment is answered as it is, whatever it is, and nothing is kept of it.
func TestNoFragment(t *testing.T) {
	packets := []api.Ip{
		{}, datagram(4, 0), datagram(4, 10), datagram(6, 70000),
		{Fam: 5, Src: from6, Dst: to4, Proto: -1, Hop: 256, Id: 7, Off: -3, More: true, Exts: []int{0, 44, -1}, Data: []byte{1}},
		{Fam: math.MinInt, Off: math.MaxInt, Id: math.MaxUint32, Exts: []int{}, Data: []byte{}},
		but(piece(4, 0, 8, true), func(p *api.Ip) { p.Frag = false }),
		but(piece(4, 8, 8, false), func(p *api.Ip) { p.Frag = false }),
	}
	full := made(t, 0, 0, 1)
	used := wide(t)
	waits(t, "a fragment", used, piece(4, 0, 8, true))
	for i, p := range packets {
		name := "packet " + strconv.Itoa(i)
		taken(t, name, full, p, p)
		counts(t, name, full, 0, 0)
		taken(t, name, used, p, p)
		counts(t, name, used, 1, 8)
	}
	taken(t, "the fragment's end", used, piece(4, 8, 1, false), datagram(4, 9))
}

// wrongAddrs are addresses that may not be.
var wrongAddrs = []api.Addr{
	{}, {Lo: 1}, {Fam: 5, Lo: 1}, {Fam: -4, Lo: 1}, {Fam: 7}, {Fam: math.MinInt}, {Fam: math.MaxInt, Hi: 1},
	{Fam: 4, Hi: 1, Lo: 1}, {Fam: 4, Lo: 1 << 32}, {Fam: 4, Hi: math.MaxUint64, Lo: math.MaxUint64},
}

// change is one of a fragment.
type change struct {
	name string
	do   func(p *api.Ip)
}

// wrongHeads are those that make a fragment ErrArg, each by itself, whatever its Data.
func wrongHeads(fam int) []change {
	var all []change
	add := func(name string, do func(p *api.Ip)) { all = append(all, change{name, do}) }
	for _, n := range []int{math.MinInt, -6, -4, -1, 0, 1, 5, 7, 8, 46, 260, 1<<32 + 4, 1<<32 + 6, math.MaxInt, 10 - fam} {
		add("Fam "+strconv.Itoa(n), func(p *api.Ip) { p.Fam = n })
	}
	src, dst := ends(10 - fam)
	for i, a := range append([]api.Addr{src, dst}, wrongAddrs...) {
		add("Src "+strconv.Itoa(i), func(p *api.Ip) { p.Src = a })
		add("Dst "+strconv.Itoa(i), func(p *api.Ip) { p.Dst = a })
	}
	for _, n := range []int{0, 5, -4} {
		add("all of family "+strconv.Itoa(n), func(p *api.Ip) { p.Fam, p.Src.Fam, p.Dst.Fam = n, n, n })
	}
	for _, n := range []int{math.MinInt, math.MinInt + 8, -65536, -16, -8, -7, -1, 1, 2, 4, 7, 9, 12, 65527, 65529, 65532, 65535, 65536, 65544, 1 << 32, math.MaxInt - 7, math.MaxInt} {
		add("Off "+strconv.Itoa(n), func(p *api.Ip) { p.Off = n })
	}
	return all
}

// wrongSizes are those that make a fragment ErrArg by its Data.
func wrongSizes() []change {
	var all []change
	add := func(name string, do func(p *api.Ip)) { all = append(all, change{name, do}) }
	for _, n := range []int{65536, 65537, 65544, 1 << 17} {
		add("Data "+strconv.Itoa(n), func(p *api.Ip) { p.Data = make([]byte, n) })
	}
	for _, n := range [][2]int{{65528, 8}, {65520, 16}, {8, 65528}, {32768, 32768}, {65528, 65535}, {8, 65535}} {
		add("Off and Data "+strconv.Itoa(n[0])+" "+strconv.Itoa(n[1]), func(p *api.Ip) { p.Off, p.Data = n[0], make([]byte, n[1]) })
	}
	return all
}

// wrongArgs are all that make a fragment ErrArg.
func wrongArgs(fam int) []change {
	return append(wrongHeads(fam), wrongSizes()...)
}

// wrongLens are all that make a fragment ErrLen, each by itself.
func wrongLens() []change {
	var all []change
	add := func(name string, do func(p *api.Ip)) { all = append(all, change{name, do}) }
	add("nil Data", func(p *api.Ip) { p.Data = nil })
	for _, more := range []bool{false, true} {
		add("empty Data, More "+strconv.FormatBool(more), func(p *api.Ip) { p.More, p.Data = more, []byte{} })
	}
	for _, n := range []int{1, 2, 4, 7, 9, 12, 15, 17, 1001} {
		add("More, Data "+strconv.Itoa(n), func(p *api.Ip) { p.More, p.Data = true, make([]byte, n) })
	}
	return all
}

// P6.2: each wrong argument alone, of fragments of all kinds, and that nothing stays of it.
func TestWrongArgs(t *testing.T) {
	for _, fam := range families {
		f := wide(t)
		for _, base := range []api.Ip{piece(fam, 0, 8, true), piece(fam, 8, 8, true), piece(fam, 16, 5, false), piece(fam, 0, 8, false)} {
			for _, c := range wrongArgs(fam) {
				refused(t, c.name, f, but(base, c.do), api.ErrArg)
			}
			for _, c := range wrongLens() {
				refused(t, c.name, f, but(base, c.do), api.ErrLen)
			}
		}
		counts(t, "behind wrong ones", f, 0, 0)
	}
}

// Two wrong arguments: the error that is named first.
func TestWrongArgsOrder(t *testing.T) {
	for _, fam := range families {
		f := wide(t)
		base := piece(fam, 8, 8, true)
		for _, a := range wrongHeads(fam) {
			for _, b := range wrongLens() {
				refused(t, a.name+", "+b.name, f, but(but(base, a.do), b.do), api.ErrArg)
			}
			for _, b := range wrongSizes() {
				refused(t, a.name+", "+b.name, f, but(but(base, a.do), b.do), api.ErrArg)
			}
		}
		// Data that is too much, and no multiple of 8 with More.
		for _, n := range []int{65529, 65535, 65537} {
			refused(t, "More, Data "+strconv.Itoa(n), f, but(base, func(p *api.Ip) { p.Data = make([]byte, n) }), api.ErrArg)
		}
		counts(t, "behind wrong ones", f, 0, 0)
	}
}

// Wrong arguments are told of ahead of what the table has, and kill nothing: the same name dead, with clashes, with no room.
func TestWrongArgsAheadOfTable(t *testing.T) {
	for _, fam := range families {
		dead := wide(t)
		waits(t, "ahead", dead, piece(fam, 0, 8, true))
		refused(t, "twice", dead, piece(fam, 0, 8, true), api.ErrOver)
		clashing := wide(t)
		waits(t, "ahead", clashing, piece(fam, 0, 8, true), piece(fam, 16, 5, false))
		full := made(t, 0, 0, 1)
		for name, f := range map[string]*frag.Table{"dead": dead, "clashing": clashing, "full": full} {
			grams, room := f.Grams(), f.Bytes()
			for _, base := range []api.Ip{piece(fam, 0, 8, true), piece(fam, 16, 5, false)} {
				for _, c := range wrongArgs(fam) {
					refused(t, name+", "+c.name, f, but(base, c.do), api.ErrArg)
				}
				for _, c := range wrongLens() {
					refused(t, name+", "+c.name, f, but(base, c.do), api.ErrLen)
				}
			}
			counts(t, name, f, grams, room)
		}
		taken(t, "nothing was killed", clashing, piece(fam, 8, 8, true), datagram(fam, 21))
		refused(t, "nothing was raised", dead, piece(fam, 8, 8, true), api.ErrOver)
	}
}

// Places and Data at their edges.
func TestEdges(t *testing.T) {
	for _, fam := range families {
		for _, n := range []int{1, 2, 7, 8, 9, 65527, 65528, 65534, 65535} {
			taken(t, "whole by itself, "+strconv.Itoa(n), wide(t), piece(fam, 0, n, false), datagram(fam, n))
		}
		for _, n := range []int{8, 16, 32768, 65520, 65528} {
			f := wide(t)
			waits(t, "at 0", f, piece(fam, 0, n, true))
			counts(t, "at 0", f, 1, n)
			taken(t, "the greatest", f, piece(fam, n, 65535-n, false), datagram(fam, 65535))
		}
		for _, n := range []int{8, 16, 32768, 65512} {
			f := wide(t)
			waits(t, "all but eight", f, piece(fam, 0, n, true), piece(fam, 65528, 7, false), piece(fam, n+8, 65520-n, true))
			counts(t, "all but eight", f, 1, 65527)
			taken(t, "the greatest", f, piece(fam, n, 8, true), datagram(fam, 65535))
		}
		for _, n := range []int{1, 2, 6, 7} {
			f := wide(t)
			waits(t, "at 65528", f, piece(fam, 65528, n, false))
			counts(t, "at 65528", f, 1, n)
			taken(t, "ahead of 65528", f, piece(fam, 0, 65528, true), datagram(fam, 65528+n))
		}
		waits(t, "More up to 65528", wide(t), piece(fam, 65520, 8, true))
		waits(t, "no end", wide(t), piece(fam, 8, 65527, false))
	}
}

// clash asks for ErrOver by p behind the others, and that the datagram is dead then.
func clash(t *testing.T, name string, fam int, p api.Ip, ahead ...api.Ip) {
	t.Helper()
	f := wide(t)
	waits(t, name, f, ahead...)
	refused(t, name, f, p, api.ErrOver)
	counts(t, name, f, 1, 0)
	for _, q := range append(ahead, p, piece(fam, 0, 8, true), piece(fam, 4000, 8, true), piece(fam, 8, 1, false), piece(fam, 0, 8, false)) {
		refused(t, name+", dead", f, q, api.ErrOver)
	}
	counts(t, name, f, 1, 0)
	ticked(t, f, 9)
	refused(t, name+", dead just before its time", f, p, api.ErrOver)
	ticked(t, f, 10)
	counts(t, name, f, 0, 0)
	waits(t, name+", gone", f, piece(fam, 0, 8, true))
	taken(t, name+", gone", f, piece(fam, 8, 8, false), datagram(fam, 16))
}

// Fragments that share bytes, one of them as well as all.
func TestShared(t *testing.T) {
	for _, fam := range families {
		at := func(off, n int) api.Ip { return piece(fam, off, n, true) }
		end := func(off, n int) api.Ip { return piece(fam, off, n, false) }
		clash(t, "twice", fam, at(0, 8), at(0, 8))
		clash(t, "twice, other bytes", fam, but(at(8, 8), func(p *api.Ip) { p.Data = make([]byte, 8) }), at(8, 8))
		clash(t, "the end twice", fam, end(8, 3), end(8, 3))
		clash(t, "the last eight", fam, at(16, 16), at(0, 24))
		clash(t, "the first eight", fam, at(0, 24), at(16, 16))
		clash(t, "inside", fam, at(16, 8), at(8, 24))
		clash(t, "around", fam, at(8, 24), at(16, 8))
		clash(t, "as far, later", fam, at(16, 16), at(8, 24))
		clash(t, "as far, earlier", fam, at(8, 24), at(16, 16))
		clash(t, "from one place, shorter", fam, at(8, 8), at(8, 24))
		clash(t, "from one place, longer", fam, at(8, 24), at(8, 8))
		clash(t, "the second of three", fam, at(24, 8), at(0, 16), at(24, 16), at(48, 8))
		clash(t, "two of three", fam, at(8, 24), at(0, 16), at(24, 16), at(48, 8))
		clash(t, "one byte of the end", fam, at(8, 16), end(16, 1))
		clash(t, "one byte, of the end", fam, end(16, 1), at(8, 16))
		clash(t, "one byte inside", fam, end(16, 1), at(0, 8), at(16, 8))
		clash(t, "the last byte of all", fam, at(65520, 8), at(65512, 16))
	}
}

// Fragments that only touch share nothing, on either side.
func TestTouching(t *testing.T) {
	for _, fam := range families {
		f := wide(t)
		waits(t, "in the middle", f, piece(fam, 16, 16, true))
		waits(t, "ahead of it", f, piece(fam, 8, 8, true))
		waits(t, "behind it", f, piece(fam, 32, 8, true))
		waits(t, "the end", f, piece(fam, 40, 1, false))
		counts(t, "all but the first", f, 1, 33)
		taken(t, "the first", f, piece(fam, 0, 8, true), datagram(fam, 41))
	}
}

// Fragments past the end, ends ahead of what is there, and second ends.
func TestPastEnd(t *testing.T) {
	for _, fam := range families {
		at := func(off, n int) api.Ip { return piece(fam, off, n, true) }
		end := func(off, n int) api.Ip { return piece(fam, off, n, false) }
		clash(t, "right behind the end", fam, at(24, 8), end(16, 8))
		clash(t, "far behind the end", fam, at(65520, 8), end(16, 8))
		clash(t, "across the end", fam, at(16, 8), end(8, 9))
		clash(t, "in the end's last eight", fam, at(24, 8), end(16, 9))
		clash(t, "an end ahead of one that is there", fam, end(8, 8), at(24, 8))
		clash(t, "an end within one that is there", fam, end(8, 1), at(8, 8))
		clash(t, "an end just ahead", fam, end(8, 8), at(16, 8))
		clash(t, "an end ahead of the first of several", fam, end(16, 7), at(40, 8), at(0, 8), at(8, 8))
		clash(t, "an end whose last byte is not that of the one there", fam, end(8, 7), at(16, 8))
		clash(t, "a second end, further", fam, end(24, 8), end(16, 8))
		clash(t, "a second end, ahead", fam, end(8, 8), end(16, 8))
		clash(t, "a second end at the last byte of the first one", fam, end(8, 8), at(0, 8), end(16, 8))
		clash(t, "an end that would be whole by itself", fam, end(0, 8), at(8, 8))
	}
}

// What reaches just up to the end does not clash, in either order.
func TestUpToEnd(t *testing.T) {
	for _, fam := range families {
		f := wide(t)
		waits(t, "the end first", f, piece(fam, 24, 8, false), piece(fam, 16, 8, true), piece(fam, 0, 8, true))
		taken(t, "the last", f, piece(fam, 8, 8, true), datagram(fam, 32))
		waits(t, "the end last", f, piece(fam, 16, 8, true), piece(fam, 0, 8, true), piece(fam, 8, 8, true))
		taken(t, "the end", f, piece(fam, 24, 1, false), datagram(fam, 25))
	}
}

// A dead datagram goes with the time of its first fragment, not of the one that clashed or of those behind.
func TestDeadTime(t *testing.T) {
	f := wide(t)
	ticked(t, f, 100)
	waits(t, "the first", f, piece(4, 0, 8, true))
	ticked(t, f, 104)
	refused(t, "the clash", f, piece(4, 0, 8, true), api.ErrOver)
	ticked(t, f, 109)
	refused(t, "one more", f, piece(4, 8, 8, true), api.ErrOver)
	counts(t, "dead", f, 1, 0)
	ticked(t, f, 110)
	counts(t, "gone", f, 0, 0)
	waits(t, "anew", f, piece(4, 0, 8, true))
	ticked(t, f, 119)
	counts(t, "the new one", f, 1, 8)
	ticked(t, f, 120)
	counts(t, "gone", f, 0, 0)
}

// Dead datagrams have no bytes, but each is one of those that may be there.
func TestDeadCount(t *testing.T) {
	f := made(t, 2, 16, 10)
	waits(t, "the first", f, piece(4, 0, 16, true))
	refused(t, "no byte is left", f, piece(6, 0, 8, true), api.ErrFull)
	refused(t, "it dies", f, piece(4, 8, 16, true), api.ErrOver)
	counts(t, "dead", f, 1, 0)
	waits(t, "its bytes are free", f, piece(6, 0, 16, true))
	counts(t, "dead and alive", f, 2, 16)
	refused(t, "its place is not", f, but(piece(4, 0, 8, true), func(p *api.Ip) { p.Id++ }), api.ErrFull)
	refused(t, "a dead one in a full table", f, piece(4, 24, 8, true), api.ErrOver)
	refused(t, "a clash in a full table", f, piece(6, 8, 8, true), api.ErrOver)
	counts(t, "both dead", f, 2, 0)
	refused(t, "no place is left", f, but(piece(4, 0, 8, true), func(p *api.Ip) { p.Id++ }), api.ErrFull)
}

// P6.2, P6.5: one datagram more than may be.
func TestFullGrams(t *testing.T) {
	for _, most := range []int{0, 1, 2, 255, 256} {
		f := made(t, most, maxBytes, 10)
		named := func(id, off int, more bool) api.Ip {
			return but(piece(4, off, 8, more), func(p *api.Ip) { p.Id = uint32(id) })
		}
		for id := range most {
			waits(t, "there is room", f, named(id, 0, true))
		}
		counts(t, "full", f, most, 8*most)
		refused(t, "one more", f, named(most, 0, true), api.ErrFull)
		refused(t, "one more, in its middle", f, named(most, 8, true), api.ErrFull)
		refused(t, "one more, whole by itself", f, named(most, 0, false), api.ErrFull)
		counts(t, "nothing is kept", f, most, 8*most)
		if most == 0 {
			continue
		}
		taken(t, "a known one, which goes", f, named(0, 8, false), datagram(4, 16))
		waits(t, "there is room again", f, named(most, 0, true))
		counts(t, "full again", f, most, 8*most)
		refused(t, "one more", f, named(0, 0, true), api.ErrFull)
	}
}

// P6.2, P6.5: one byte more than may be, of a new datagram and of a known one.
func TestFullBytes(t *testing.T) {
	for _, room := range []int{0, 1, 7, 8, 9, 16, 100, 65535} {
		f := made(t, 256, room, 10)
		refused(t, "new, one byte more", f, piece(4, 8, room+1, false), wantFull(room+1))
		refused(t, "new, whole by itself", f, piece(4, 0, room+1, false), wantFull(room+1))
		counts(t, "nothing is kept", f, 0, 0)
		if room == 0 {
			continue
		}
		taken(t, "new, just as many", f, piece(4, 0, room, false), datagram(4, room))
		if room < 16 || room == 65535 {
			continue
		}
		waits(t, "known", f, piece(4, 0, 8, true))
		refused(t, "known, one byte more", f, piece(4, 16, room-7, false), api.ErrFull)
		refused(t, "known, one byte more, whole then", f, piece(4, 8, room-7, false), api.ErrFull)
		refused(t, "new, one byte more", f, piece(6, 8, room-7, false), api.ErrFull)
		counts(t, "the known one stays", f, 1, 8)
		waits(t, "new, just as many", f, piece(6, 8, room-8, false))
		counts(t, "full", f, 2, room)
		ticked(t, f, 9)
		refused(t, "full", f, piece(4, 8, 1, false), api.ErrFull)
		refused(t, "full, but a clash", f, piece(6, 8, 1, false), api.ErrOver)
		counts(t, "the clash made room", f, 2, 8)
		taken(t, "known, just as many", f, piece(4, 8, room-8, false), datagram(4, room))
		counts(t, "the dead one alone", f, 1, 0)
	}
}

// wantFull is what a table too small for n bytes answers: so many may be too many for any fragment.
func wantFull(n int) api.Errno {
	if n > 65535 {
		return api.ErrArg
	}
	return api.ErrFull
}

// The greatest table is full at just 2^20 bytes, and not ahead of them.
func TestFullGreatest(t *testing.T) {
	f := wide(t)
	named := func(id, off, n int) api.Ip {
		return but(piece(4, off, n, true), func(p *api.Ip) { p.Id = uint32(id) })
	}
	for id := range 16 {
		waits(t, "there is room", f, named(id, 8, 65520))
	}
	left := maxBytes - 16*65520
	waits(t, "there is room", f, named(16, 0, left-8))
	refused(t, "one eight too many", f, named(17, 0, 16), api.ErrFull)
	waits(t, "the last eight", f, named(17, 0, 8))
	counts(t, "full", f, 18, maxBytes)
	refused(t, "one byte, new", f, but(named(18, 0, 1), func(p *api.Ip) { p.More = false }), api.ErrFull)
	refused(t, "one byte, known", f, but(named(17, 8, 1), func(p *api.Ip) { p.More = false }), api.ErrFull)
	counts(t, "full", f, 18, maxBytes)
}

// A fragment that had no room may come again: its datagram is as it was, also its time.
func TestFullThenRoom(t *testing.T) {
	f := made(t, 2, 24, 10)
	waits(t, "the other one", f, piece(6, 8, 16, true))
	ticked(t, f, 5)
	waits(t, "the first", f, piece(4, 0, 8, true))
	refused(t, "no room", f, piece(4, 8, 8, false), api.ErrFull)
	ticked(t, f, 10)
	counts(t, "the other one is gone", f, 1, 8)
	refused(t, "too much again", f, piece(4, 16, 24, true), api.ErrFull)
	taken(t, "there is room", f, piece(4, 8, 8, false), datagram(4, 16))

	waits(t, "the first", f, piece(4, 0, 16, true))
	ticked(t, f, 19)
	refused(t, "no room", f, piece(4, 16, 16, true), api.ErrFull)
	ticked(t, f, 20)
	counts(t, "gone with its first fragment's time", f, 0, 0)
}

// A datagram that was refused for want of room takes no place and no time.
func TestFullKeepsNothing(t *testing.T) {
	f := made(t, 1, 8, 10)
	refused(t, "no room", f, piece(4, 0, 16, true), api.ErrFull)
	ticked(t, f, 9)
	waits(t, "the other one", f, piece(6, 0, 8, true))
	ticked(t, f, 10)
	counts(t, "the other one", f, 1, 8)
	ticked(t, f, 19)
	waits(t, "the first again", f, piece(4, 8, 8, true))
	ticked(t, f, 28)
	counts(t, "its time began late", f, 1, 8)
}

// others are changes that make another datagram's fragment of one.
func others(fam int) []change {
	all := []change{
		{"Id 0", func(p *api.Ip) { p.Id = 0 }},
		{"Id + 1", func(p *api.Ip) { p.Id++ }},
		{"Id + 65536", func(p *api.Ip) { p.Id += 65536 }},
		{"Id greatest", func(p *api.Ip) { p.Id = math.MaxUint32 }},
		{"Src", func(p *api.Ip) { p.Src.Lo++ }},
		{"Dst", func(p *api.Ip) { p.Dst.Lo++ }},
		{"the ends, the other way", func(p *api.Ip) { p.Src, p.Dst = p.Dst, p.Src }},
		{"one end for both", func(p *api.Ip) { p.Src = p.Dst }},
		{"the other family", func(p *api.Ip) {
			p.Fam = 10 - fam
			p.Src, p.Dst = ends(p.Fam)
		}},
	}
	if fam == 6 {
		return append(all, change{"Src Hi", func(p *api.Ip) { p.Src.Hi++ }}, change{"Dst Hi", func(p *api.Ip) { p.Dst.Hi++ }})
	}
	for _, n := range []int{6, 0, 18, 17 + 256, -17, math.MinInt, math.MaxInt} {
		all = append(all, change{"Proto " + strconv.Itoa(n), func(p *api.Ip) { p.Proto = n }})
	}
	return append(all, change{"family 6 with the same bits", func(p *api.Ip) { p.Fam, p.Src.Fam, p.Dst.Fam = 6, 6, 6 }})
}

// Fragments of unlike names make no datagram, and do not clash.
func TestNames(t *testing.T) {
	for _, fam := range families {
		for _, c := range others(fam) {
			f := wide(t)
			waits(t, c.name, f, piece(fam, 0, 8, true), but(piece(fam, 0, 8, true), c.do))
			counts(t, c.name, f, 2, 16)
			other := but(piece(fam, 8, 8, false), c.do)
			want := but(but(piece(fam, 0, 16, true), c.do), func(p *api.Ip) { p.Frag, p.Id, p.More = false, 0, false })
			taken(t, c.name, f, other, want)
			waits(t, c.name, f, other)
			refused(t, c.name, f, other, api.ErrOver)
			taken(t, c.name, f, piece(fam, 8, 2, false), datagram(fam, 10))
		}
	}
}

// What is no part of the name: the protocol in family 6, hops, extension headers.
func TestNoNames(t *testing.T) {
	for _, fam := range families {
		all := []change{
			{"Hop", func(p *api.Ip) { p.Hop = -1 }},
			{"Exts", func(p *api.Ip) { p.Exts = []int{60, 44, 44} }},
		}
		if fam == 6 {
			for _, n := range []int{6, 0, 255, 256, -1, math.MinInt, math.MaxInt} {
				all = append(all, change{"Proto " + strconv.Itoa(n), func(p *api.Ip) { p.Proto = n }})
			}
		}
		for _, c := range all {
			f := wide(t)
			waits(t, c.name, f, piece(fam, 0, 8, true))
			taken(t, c.name, f, but(piece(fam, 8, 2, false), c.do), datagram(fam, 10))
			waits(t, c.name, f, piece(fam, 0, 8, true))
			refused(t, c.name, f, but(piece(fam, 0, 8, true), c.do), api.ErrOver)
		}
	}
}

// The answer's header is that of the fragment at the place 0, whenever that one comes.
func TestHeader(t *testing.T) {
	for _, fam := range families {
		for first := range 3 {
			f := wide(t)
			pieces := []api.Ip{piece(fam, 0, 8, true), piece(fam, 8, 8, true), piece(fam, 16, 3, false)}
			for i := range pieces {
				pieces[i].Hop, pieces[i].Exts = 10+i, []int{60, i, 44}
				if fam == 6 {
					pieces[i].Proto = 20 + i
				}
			}
			want := but(pieces[0], func(p *api.Ip) { p.Frag, p.Id, p.More, p.Data = false, 0, false, count(0, 19) })
			waits(t, "two of three", f, pieces[first], pieces[(first+1)%3])
			taken(t, "the third", f, pieces[(first+2)%3], want)
		}
	}
}

// Numbers of the header that nobody asks for are answered as they came.
func TestHeaderAny(t *testing.T) {
	for _, n := range []int{math.MinInt, -1, 0, 1, 255, 256, math.MaxInt} {
		for _, fam := range families {
			f := wide(t)
			turn := func(p *api.Ip) { p.Proto, p.Hop, p.Exts = n, n, []int{n, n} }
			waits(t, "at 0", f, but(piece(fam, 0, 8, true), turn))
			taken(t, "at 8", f, but(piece(fam, 8, 1, false), turn), but(datagram(fam, 9), turn))
		}
	}
}

// A datagram that went leaves nothing: its name begins anew, with a time of its own.
func TestWentAndAnew(t *testing.T) {
	f := made(t, 1, 16, 10)
	for i := range 30 {
		ticked(t, f, 4*i)
		waits(t, "the first", f, piece(4, 8, 8, false))
		counts(t, "the first", f, 1, 8)
		ticked(t, f, 4*i+3)
		taken(t, "the second", f, piece(4, 0, 8, true), datagram(4, 16))
		counts(t, "none", f, 0, 0)
	}
}
