package frag_test

import (
	"bytes"
	"math"
	"slices"
	"testing"

	"stockade/api"
	"stockade/frag"
)

// The limits that the chapter names.
const (
	maxBytes = 1 << 20
	maxLife  = 1 << 40
	maxNow   = api.MaxTime - maxLife
)

// The ends of ordinary packets.
var (
	from4 = api.Addr{Fam: 4, Lo: 0x0a000001}
	to4   = api.Addr{Fam: 4, Lo: 0x0a000002}
	from6 = api.Addr{Fam: 6, Hi: 0x20010db800010203, Lo: 0x0405060708090a0b}
	to6   = api.Addr{Fam: 6, Hi: 0x20010db800000000, Lo: 0x00000000000000fe}
)

// families are those that have addresses.
var families = []int{4, 6}

// ends are the ordinary packets' sender and receiver.
func ends(fam int) (api.Addr, api.Addr) {
	if fam == 4 {
		return from4, to4
	}
	return from6, to6
}

// count are the n bytes from off on of a datagram in which each byte is other than its neighbours.
func count(off, n int) []byte {
	b := make([]byte, n)
	for i := range b {
		b[i] = byte((off + i) % 251)
	}
	return b
}

// piece is the fragment of the n bytes from off on of the ordinary datagram.
func piece(fam, off, n int, more bool) api.Ip {
	src, dst := ends(fam)
	p := api.Ip{Fam: fam, Src: src, Dst: dst, Proto: 17, Hop: 5, Frag: true, Id: 9, Off: off, More: more, Data: count(off, n)}
	if fam == 6 {
		p.Exts = []int{44}
	}
	return p
}

// datagram is the ordinary one, whole, of n bytes.
func datagram(fam, n int) api.Ip {
	p := piece(fam, 0, n, false)
	p.Frag, p.Id = false, 0
	return p
}

// but is a packet with a change.
func but(p api.Ip, change func(p *api.Ip)) api.Ip {
	change(&p)
	return p
}

// same tells whether two packets are, where lists that are nil or empty are the same.
func same(a, b api.Ip) bool {
	return a.Fam == b.Fam && a.Src == b.Src && a.Dst == b.Dst && a.Proto == b.Proto && a.Hop == b.Hop &&
		a.Frag == b.Frag && a.Id == b.Id && a.Off == b.Off && a.More == b.More &&
		slices.Equal(a.Exts, b.Exts) && bytes.Equal(a.Data, b.Data)
}

// made is a table that New gives.
func made(t *testing.T, grams, room, life int) *frag.Table {
	t.Helper()
	f, e := frag.New(grams, room, life)
	if e != api.OK || f == nil {
		t.Fatalf("New(%d, %d, %d): %v, %v", grams, room, life, f, e)
	}
	return f
}

// wide is a table in which all tests have room.
func wide(t *testing.T) *frag.Table {
	t.Helper()
	return made(t, api.MaxCap, maxBytes, 10)
}

// refused asks a table for an error with a packet, beside which there is nothing.
func refused(t *testing.T, name string, f *frag.Table, p api.Ip, want api.Errno) {
	t.Helper()
	if got, e := f.Put(p); e != want || !same(got, api.Ip{}) {
		t.Fatalf("%s: %v, %v, want nothing, %v", name, got, e, want)
	}
}

// waits puts fragments, none of which makes a datagram whole.
func waits(t *testing.T, name string, f *frag.Table, pieces ...api.Ip) {
	t.Helper()
	for _, p := range pieces {
		refused(t, name, f, p, api.ErrWait)
	}
}

// taken asks a table for a datagram that a packet makes whole.
func taken(t *testing.T, name string, f *frag.Table, p, want api.Ip) {
	t.Helper()
	if got, e := f.Put(p); e != api.OK || !same(got, want) {
		t.Fatalf("%s: %v, %v, want %v", name, got, e, want)
	}
}

// ticked sets a table's clock.
func ticked(t *testing.T, f *frag.Table, now int) {
	t.Helper()
	if e := f.Tick(now); e != api.OK || f.Now() != now {
		t.Fatalf("Tick(%d): %v, then Now %d", now, e, f.Now())
	}
}

// counts asks a table how much it has.
func counts(t *testing.T, name string, f *frag.Table, grams, room int) {
	t.Helper()
	if f.Grams() != grams || f.Bytes() != room {
		t.Fatalf("%s: %d datagrams of %d bytes, want %d of %d", name, f.Grams(), f.Bytes(), grams, room)
	}
}

// P6.1: New.

func TestNew(t *testing.T) {
	right := [][3]int{
		{0, 0, 1}, {256, 0, 1}, {0, maxBytes, 1}, {0, 0, maxLife}, {256, maxBytes, maxLife}, {1, 1, 2}, {255, maxBytes - 1, maxLife - 1},
	}
	for _, n := range right {
		f := made(t, n[0], n[1], n[2])
		counts(t, "a new table", f, 0, 0)
		if f.Now() != 0 {
			t.Errorf("New(%v): the clock is %d", n, f.Now())
		}
	}
	wrong := [3][]int{
		{math.MinInt, -256, -1, 257, 1 << 32, math.MaxInt},
		{math.MinInt, -maxBytes, -1, maxBytes + 1, 1 << 32, math.MaxInt},
		{math.MinInt, -1, 0, maxLife + 1, 1 << 62, math.MaxInt},
	}
	for i, numbers := range wrong {
		for _, n := range numbers {
			for _, base := range right {
				base[i] = n
				if f, e := frag.New(base[0], base[1], base[2]); f != nil || e != api.ErrArg {
					t.Errorf("New(%v): %v, %v", base, f, e)
				}
			}
		}
	}
}

// What New was given is what holds: not less, and not more.
func TestNewHolds(t *testing.T) {
	f := made(t, 2, 24, 3)
	waits(t, "two of 24 bytes", f, piece(4, 0, 16, true), piece(6, 0, 8, true))
	counts(t, "full", f, 2, 24)
	refused(t, "a third one", f, but(piece(4, 0, 8, true), func(p *api.Ip) { p.Id++ }), api.ErrFull)
	refused(t, "one byte more", f, piece(6, 8, 1, false), api.ErrFull)
	ticked(t, f, 2)
	counts(t, "ahead of the life's end", f, 2, 24)
	ticked(t, f, 3)
	counts(t, "at the life's end", f, 0, 0)
}

// P6.1: Tick, and the clock.

func TestTick(t *testing.T) {
	f := wide(t)
	for _, now := range []int{0, 0, 1, 1, 5, 1 << 40, 1<<61 + 3, maxNow - 1, maxNow, maxNow} {
		ticked(t, f, now)
		for _, wrong := range []int{math.MinInt, -1, now - 1, maxNow + 1, api.MaxTime, api.MaxTime + 1, math.MaxInt} {
			if e := f.Tick(wrong); e != api.ErrTime || f.Now() != now {
				t.Fatalf("Tick(%d) at %d: %v, then Now %d", wrong, now, e, f.Now())
			}
		}
	}
}

// A Tick that is refused turns nothing, also where its time is one at which datagrams are gone.
func TestTickRefused(t *testing.T) {
	f := wide(t)
	ticked(t, f, 7)
	waits(t, "the first", f, piece(4, 0, 8, true))
	for _, now := range []int{math.MinInt, 6, maxNow + 1, math.MaxInt} {
		if e := f.Tick(now); e != api.ErrTime {
			t.Fatalf("Tick(%d): %v", now, e)
		}
	}
	counts(t, "behind wrong Ticks", f, 1, 8)
	taken(t, "the second", f, piece(4, 8, 2, false), datagram(4, 10))
}

// P6.1, P6.6: a datagram's time is that of its first fragment, with the life.
func TestGone(t *testing.T) {
	for _, life := range []int{1, 2, 10, maxLife} {
		for _, begin := range []int{0, 1, 1000, maxNow - life - 1} {
			if begin < 0 {
				continue
			}
			f := made(t, 1, 100, life)
			ticked(t, f, begin)
			waits(t, "the first", f, piece(4, 8, 8, true))
			ticked(t, f, begin)
			counts(t, "a clock that stays", f, 1, 8)
			ticked(t, f, begin+life-1)
			counts(t, "just before its time", f, 1, 8)
			waits(t, "the second, which gives no more time", f, piece(4, 16, 8, true))
			counts(t, "two fragments", f, 1, 16)
			ticked(t, f, begin+life)
			counts(t, "at its time", f, 0, 0)
			waits(t, "the third, which is the first now", f, piece(4, 0, 8, true))
			counts(t, "a new one", f, 1, 8)
			taken(t, "its end", f, piece(4, 8, 3, false), datagram(4, 11))
		}
	}
}

// A Tick past a datagram's time does as one that just reaches it.
func TestGoneBehind(t *testing.T) {
	for _, late := range []int{0, 1, 1000, maxNow - 10} {
		f := wide(t)
		waits(t, "the first", f, piece(6, 0, 8, true))
		ticked(t, f, 10+late)
		counts(t, "behind its time", f, 0, 0)
		waits(t, "its end", f, piece(6, 8, 8, false))
	}
}

// At the last tick a datagram can still be there, with the time MaxTime, and is never gone.
func TestLastTick(t *testing.T) {
	f := made(t, 4, 100, maxLife)
	ticked(t, f, maxNow)
	waits(t, "the first", f, piece(4, 0, 8, true))
	if e := f.Tick(api.MaxTime); e != api.ErrTime {
		t.Fatal(e)
	}
	ticked(t, f, maxNow)
	counts(t, "at the last tick", f, 1, 8)
	taken(t, "its end", f, piece(4, 8, 8, false), datagram(4, 16))
}

// Of several datagrams those are gone whose time it is, and no others.
func TestGoneEachByItself(t *testing.T) {
	f := wide(t)
	named := func(id int) api.Ip { return but(piece(4, 0, 8*(id+1), true), func(p *api.Ip) { p.Id = uint32(id) }) }
	for id := range 20 {
		ticked(t, f, id)
		waits(t, "one a tick", f, named(id))
		left := min(id+1, 10)
		room := 0
		for i := range left {
			room += 8 * (id - i + 1)
		}
		counts(t, "one a tick", f, left, room)
	}
	for id := 9; id < 20; id++ {
		want := api.ErrOver // it is there still: the same bytes again
		if id == 9 {
			want = api.ErrWait
		}
		refused(t, "anew", f, named(id), want)
	}
}

// P6.3: tables that New did not give.
func TestNobodysTable(t *testing.T) {
	for name, f := range map[string]*frag.Table{"nil": nil, "zero": {}, "new": new(frag.Table)} {
		for range 2 {
			packets := []api.Ip{{}, piece(4, 0, 8, true), piece(6, 8, 8, false), datagram(4, 3), {Frag: true}, {Fam: -1, Off: math.MinInt, Frag: true}}
			for _, p := range packets {
				refused(t, name, f, p, api.ErrNil)
			}
			for _, now := range []int{math.MinInt, -1, 0, 1, maxNow, math.MaxInt} {
				if e := f.Tick(now); e != api.ErrNil {
					t.Errorf("%s: Tick(%d): %v", name, now, e)
				}
			}
			counts(t, name, f, 0, 0)
			if f.Now() != 0 {
				t.Errorf("%s: Now %d", name, f.Now())
			}
		}
	}
}
