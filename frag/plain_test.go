package frag_test

import (
	"math/rand"
	"slices"
	"testing"

	"stockade/api"
	"stockade/frag"
)

// plainGram is a datagram in the chapter's own words: its fragments as they came.
type plainGram struct {
	fam   int
	name  api.Gram
	parts []api.Ip
	ends  int
	dead  bool
}

// covers tells whether the fragments' Data cover the byte at a place.
func (g *plainGram) covers(at int) bool {
	return slices.ContainsFunc(g.parts, func(q api.Ip) bool { return at >= q.Off && at < q.Off+len(q.Data) })
}

// ended is the end of the fragment without More, or -1.
func (g *plainGram) ended() int {
	for _, q := range g.parts {
		if !q.More {
			return q.Off + len(q.Data)
		}
	}
	return -1
}

// clashes tells whether a fragment clashes, byte by byte.
func (g *plainGram) clashes(p api.Ip) bool {
	for i := range p.Data {
		if g.covers(p.Off + i) {
			return true
		}
	}
	if g.ended() >= 0 && p.Off+len(p.Data) > g.ended() {
		return true
	}
	past := func(q api.Ip) bool { return q.Off+len(q.Data) > p.Off+len(p.Data) }
	return !p.More && (g.ended() >= 0 || slices.ContainsFunc(g.parts, past))
}

// whole tells whether each byte up to the end is there.
func (g *plainGram) whole() bool {
	for at := range max(g.ended(), 0) {
		if !g.covers(at) {
			return false
		}
	}
	return g.ended() >= 0
}

// plainTable is a table in the chapter's own words.
type plainTable struct {
	most, room, life, now int
	grams                 []*plainGram
}

func (m *plainTable) tick(now int) api.Errno {
	if now < m.now || now > maxNow {
		return api.ErrTime
	}
	m.now = now
	m.grams = slices.DeleteFunc(m.grams, func(g *plainGram) bool { return g.ends <= now })
	return api.OK
}

func (m *plainTable) bytes() int {
	n := 0
	for _, g := range m.grams {
		for _, q := range g.parts {
			n += len(q.Data)
		}
	}
	return n
}

// wrong is ErrArg or ErrLen of a fragment at ends that may be.
func (m *plainTable) wrong(p api.Ip) api.Errno {
	if p.Off < 0 || p.Off > 65528 || p.Off%8 != 0 || len(p.Data) > 65535 || p.Off+len(p.Data) > 65535 {
		return api.ErrArg
	}
	if len(p.Data) == 0 || p.More && len(p.Data)%8 != 0 {
		return api.ErrLen
	}
	return api.OK
}

func (m *plainTable) put(p api.Ip) (api.Ip, api.Errno) {
	if !p.Frag {
		return p, api.OK
	}
	if e := m.wrong(p); e != api.OK {
		return api.Ip{}, e
	}
	fresh := &plainGram{fam: p.Fam, name: api.Gram{Src: p.Src, Dst: p.Dst, Id: p.Id}, ends: m.now + m.life}
	if p.Fam == 4 {
		fresh.name.Proto = p.Proto
	}
	at := slices.IndexFunc(m.grams, func(g *plainGram) bool { return g.fam == fresh.fam && g.name == fresh.name })
	if at >= 0 {
		g := m.grams[at]
		if g.dead || g.clashes(p) {
			g.dead, g.parts = true, nil
			return api.Ip{}, api.ErrOver
		}
	}
	if at < 0 && len(m.grams)+1 > m.most || m.bytes()+len(p.Data) > m.room {
		return api.Ip{}, api.ErrFull
	}
	if at < 0 {
		m.grams = append(m.grams, fresh)
		at = len(m.grams) - 1
	}
	g := m.grams[at]
	g.parts = append(g.parts, copied(p))
	if !g.whole() {
		return api.Ip{}, api.ErrWait
	}
	m.grams = slices.Delete(m.grams, at, at+1)
	slices.SortFunc(g.parts, func(a, b api.Ip) int { return a.Off - b.Off })
	w := g.parts[0]
	w.Data = nil
	for _, q := range g.parts {
		w.Data = append(w.Data, q.Data...)
	}
	w.Frag, w.More, w.Id, w.Off = false, false, 0, 0
	return w, api.OK
}

// copied is a packet that shares nothing with another one.
func copied(p api.Ip) api.Ip {
	p.Exts, p.Data = append([]int(nil), p.Exts...), append([]byte(nil), p.Data...)
	return p
}

// scribble writes over all that a packet shares.
func scribble(p api.Ip) {
	for i := range p.Exts {
		p.Exts[i] = -77
	}
	for i := range p.Data {
		p.Data[i] ^= 255
	}
	spare := p.Data[len(p.Data):cap(p.Data)]
	for i := range spare {
		spare[i] = 99
	}
}

// some is a fragment by chance, of few names and at few places, so that many of them meet.
func some(r *rand.Rand) api.Ip {
	fam := families[r.Intn(2)]
	p := piece(fam, 8*r.Intn(5), 8*(1+r.Intn(3)), true)
	if r.Intn(3) == 0 {
		p.More, p.Data = false, p.Data[:1+r.Intn(len(p.Data))]
	}
	for i := range p.Data {
		p.Data[i] = byte(r.Intn(256))
	}
	p.Id, p.Proto, p.Hop = uint32(r.Intn(3)), 16+r.Intn(2), r.Intn(256)
	p.Exts = make([]int, r.Intn(3))
	for i := range p.Exts {
		p.Exts[i] = r.Intn(61)
	}
	switch r.Intn(25) {
	case 0:
		p.Off = []int{-8, 4, 65528, 65536}[r.Intn(4)]
	case 1:
		p.Data = p.Data[:r.Intn(len(p.Data))]
	case 2:
		p.Frag = false
	case 3:
		p.Src, p.Dst = p.Dst, p.Src
	}
	return p
}

// asPlain asks a table and the plain one the same, and holds the answers, and all that can be told of both, against one another. It writes over what was handed in, and over what was answered.
func asPlain(t *testing.T, f *frag.Table, m *plainTable, p api.Ip) api.Errno {
	t.Helper()
	handed := copied(p)
	got, e := f.Put(handed)
	if !same(handed, p) {
		t.Fatalf("Put(%v) wrote into it: %v", p, handed)
	}
	want, wantE := m.put(p)
	if e != wantE || !same(got, want) {
		t.Fatalf("Put(%v): %v, %v, want %v, %v", p, got, e, want, wantE)
	}
	scribble(handed)
	if !same(got, want) {
		t.Fatalf("Put(%v): the answer shares what was handed in", p)
	}
	scribble(got)
	level(t, f, m)
	return e
}

// level asks a table for the plain one's counts, within their bounds.
func level(t *testing.T, f *frag.Table, m *plainTable) {
	t.Helper()
	if f.Grams() != len(m.grams) || f.Bytes() != m.bytes() || f.Now() != m.now {
		t.Fatalf("%d datagrams of %d bytes at %d, want %d of %d at %d", f.Grams(), f.Bytes(), f.Now(), len(m.grams), m.bytes(), m.now)
	}
	if f.Grams() > m.most || f.Bytes() > m.room {
		t.Fatalf("%d datagrams of %d bytes, above %d of %d", f.Grams(), f.Bytes(), m.most, m.room)
	}
}

// P6.1, P6.2, P6.5, R4, R7: scripts by chance, against the plain reading.
func TestAny(t *testing.T) {
	r := rand.New(rand.NewSource(6))
	met := map[api.Errno]int{}
	for range 3000 {
		m := &plainTable{most: r.Intn(6), room: r.Intn(150), life: 1 + r.Intn(20)}
		f := made(t, m.most, m.room, m.life)
		for range 60 {
			if r.Intn(8) > 0 {
				met[asPlain(t, f, m, some(r))]++
				continue
			}
			now := m.now + r.Intn(8) - 1
			if e, want := f.Tick(now), m.tick(now); e != want {
				t.Fatalf("Tick(%d): %v, want %v", now, e, want)
			}
			level(t, f, m)
		}
	}
	for _, e := range []api.Errno{api.OK, api.ErrArg, api.ErrLen, api.ErrOver, api.ErrFull, api.ErrWait} {
		if met[e] < 1000 {
			t.Errorf("%v was met only %d times", e, met[e])
		}
	}
}

// orders hands each order of the numbers below n to ask.
func orders(n int, ask func(order []int)) {
	order := make([]int, 0, n)
	var more func()
	more = func() {
		if len(order) == n {
			ask(order)
		}
		for i := range n {
			if !slices.Contains(order, i) {
				order = append(order, i)
				more()
				order = order[:len(order)-1]
			}
		}
	}
	more()
}

// P6.4: each order of fragments, of unlike sizes.
func TestOrders(t *testing.T) {
	cuts := [][]int{{1}, {8}, {8, 1}, {8, 8}, {16, 3}, {8, 16, 7}, {24, 8, 8}, {8, 8, 8, 1}, {8, 24, 16, 8, 5}, {16, 8, 8, 32, 8, 8}}
	for _, fam := range families {
		for _, cut := range cuts {
			var pieces []api.Ip
			size := 0
			for i, n := range cut {
				pieces = append(pieces, piece(fam, size, n, i < len(cut)-1))
				size += n
			}
			f := wide(t)
			orders(len(cut), func(order []int) {
				for _, i := range order[:len(order)-1] {
					waits(t, "one of some", f, pieces[i])
				}
				taken(t, "the last of all", f, pieces[order[len(order)-1]], datagram(fam, size))
				counts(t, "none is left", f, 0, 0)
			})
		}
	}
}

// P6.4: the greatest datagram in the most fragments, by chance.
func TestOrderOfMost(t *testing.T) {
	r := rand.New(rand.NewSource(64))
	f := made(t, 1, 65535, 1)
	order := r.Perm(8192)
	for _, i := range order[:len(order)-1] {
		waits(t, "one of most", f, piece(4, 8*i, min(8, 65535-8*i), i < 8191))
	}
	last := order[len(order)-1]
	taken(t, "the last of all", f, piece(4, 8*last, min(8, 65535-8*last), last < 8191), datagram(4, 65535))
}

// P6.6: behind the time of all that it has, a table is as one that never had anything.
func TestGoneHasNoPart(t *testing.T) {
	r := rand.New(rand.NewSource(66))
	for range 500 {
		old, fresh := made(t, 4, 100, 5), made(t, 4, 100, 5)
		for range 20 {
			old.Put(some(r))
		}
		ticked(t, old, 5)
		ticked(t, fresh, 5)
		counts(t, "all are gone", old, 0, 0)
		for range 30 {
			p := some(r)
			a, ea := old.Put(p)
			b, eb := fresh.Put(p)
			if ea != eb || !same(a, b) || old.Grams() != fresh.Grams() || old.Bytes() != fresh.Bytes() {
				t.Fatalf("Put(%v): %v, %v, and of a table without a past %v, %v", p, a, ea, b, eb)
			}
		}
	}
}

// P6.7: where there is room, each datagram is answered as in a table of its own.
func TestUnlikeNames(t *testing.T) {
	r := rand.New(rand.NewSource(67))
	for range 300 {
		all, own := made(t, 256, maxBytes, 6), map[api.Gram]*frag.Table{}
		now := 0
		for range 100 {
			if r.Intn(6) == 0 {
				now += r.Intn(4)
				ticked(t, all, now)
				for _, f := range own {
					ticked(t, f, now)
				}
			}
			p := some(r)
			name := api.Gram{Src: p.Src, Dst: p.Dst, Id: p.Id}
			if p.Fam == 4 {
				name.Proto = p.Proto
			}
			if own[name] == nil {
				own[name] = made(t, 1, maxBytes, 6)
				ticked(t, own[name], now)
			}
			a, ea := all.Put(p)
			b, eb := own[name].Put(p)
			if ea != eb || !same(a, b) {
				t.Fatalf("Put(%v): %v, %v, and in a table of its own %v, %v", p, a, ea, b, eb)
			}
		}
		grams, room := 0, 0
		for _, f := range own {
			grams, room = grams+f.Grams(), room+f.Bytes()
		}
		counts(t, "all of them", all, grams, room)
	}
}

// Tables turn nothing of one another.
func TestTwoTables(t *testing.T) {
	a, b := made(t, 1, 16, 10), made(t, 1, 16, 10)
	waits(t, "in one", a, piece(4, 0, 8, true))
	ticked(t, a, 3)
	counts(t, "the other one", b, 0, 0)
	if b.Now() != 0 {
		t.Errorf("the other one's clock is %d", b.Now())
	}
	waits(t, "in the other one", b, piece(4, 8, 8, false))
	taken(t, "in one", a, piece(4, 8, 8, false), datagram(4, 16))
	taken(t, "in the other one", b, piece(4, 0, 8, true), datagram(4, 16))
}

// R4: what was handed in is not written into and not kept; what is answered is the caller's.
func TestShares(t *testing.T) {
	for _, fam := range families {
		f := wide(t)
		first, second := piece(fam, 0, 8, true), piece(fam, 8, 8, false)
		first.Exts, second.Exts = []int{60, 44}, []int{43, 44}
		want := but(datagram(fam, 16), func(p *api.Ip) { p.Exts = []int{60, 44} })
		for _, pair := range [][2]api.Ip{{first, second}, {second, first}} {
			a, b := copied(pair[0]), copied(pair[1])
			waits(t, "one of two", f, a)
			if !same(a, pair[0]) {
				t.Fatalf("Put wrote into %v", a)
			}
			scribble(a)
			got, e := f.Put(b)
			if e != api.OK || !same(got, want) || !same(b, pair[1]) {
				t.Fatalf("%v, %v, want %v", got, e, want)
			}
			scribble(b)
			if !same(got, want) {
				t.Fatal("the answer shares what was handed in")
			}
			scribble(got)
			if same(b, got) {
				t.Fatal("what was handed in shares the answer")
			}
			again := copied(pair[0])
			waits(t, "the next datagram", f, again)
			taken(t, "the next datagram", f, copied(pair[1]), want)
		}
	}
}

// R4: a packet that is no fragment is handed on as a copy; so is one that is whole by itself.
func TestSharesWhole(t *testing.T) {
	f := wide(t)
	for _, p := range []api.Ip{datagram(6, 20), piece(6, 0, 20, false)} {
		handed := copied(p)
		got, e := f.Put(handed)
		if e != api.OK || !same(got, datagram(6, 20)) {
			t.Fatal(got, e)
		}
		scribble(handed)
		if !same(got, datagram(6, 20)) {
			t.Fatal("the answer shares what was handed in")
		}
		handed = copied(p)
		got, _ = f.Put(handed)
		scribble(got)
		if !same(handed, p) {
			t.Fatal("what was handed in shares the answer")
		}
	}
}

// R4: the room behind the end of a list that was handed in is not written into, and not answered.
func TestSharesRoom(t *testing.T) {
	f := wide(t)
	data, exts := count(0, 64), []int{44, 1, 2, 3}
	p := piece(6, 0, 8, true)
	p.Data, p.Exts = data[:8], exts[:1]
	waits(t, "one of two", f, p)
	taken(t, "two of two", f, piece(6, 8, 8, false), datagram(6, 16))
	p.Frag = false
	got, _ := f.Put(p)
	_, _ = append(got.Data, 77), append(got.Exts, 77)
	if !slices.Equal(data, count(0, 64)) || !slices.Equal(exts, []int{44, 1, 2, 3}) {
		t.Fatal(data, exts)
	}
}
