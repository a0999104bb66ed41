package frag_test

import (
	"bytes"
	"math/rand"
	"slices"
	"testing"

	"stockade/api"
	"stockade/frag"
	"stockade/ip4"
	"stockade/ip6"
	"stockade/seg"
)

// T3, as far as the layers up to this one bear it: frames are read, put together, and what they carry is read.

// segment is one by chance, of a family, with n bytes of Data.
func segment(r *rand.Rand, fam, n int) api.Seg {
	src, dst := ends(fam)
	s := api.Seg{Tuple: api.Tuple{Fam: fam, Src: src, Dst: dst, Sport: r.Intn(65536), Dport: r.Intn(65536)}, Data: make([]byte, n)}
	r.Read(s.Data)
	switch r.Intn(3) {
	case 0:
		s.Tuple.Proto, s.Flags, s.Seq, s.Ack, s.Win = api.TCP, api.ACK|api.PSH, r.Uint32(), r.Uint32(), r.Intn(65536)
	case 1:
		s.Tuple.Proto = api.UDP
	case 2:
		s.Tuple.Dport = s.Tuple.Sport
		s.Tuple.Proto, s.Type = api.ICMP, 8
		if fam == 6 {
			s.Tuple.Proto, s.Type = api.ICMP6, 128
		}
	}
	return s
}

// carrier is the packet of a segment, in family 6 at times with a header for the end ahead of it, which is cut with the rest.
func carrier(t *testing.T, r *rand.Rand, s api.Seg) api.Ip {
	t.Helper()
	b, e := seg.Build(s)
	if e != api.OK {
		t.Fatal(e)
	}
	p := api.Ip{Fam: s.Tuple.Fam, Src: s.Tuple.Src, Dst: s.Tuple.Dst, Proto: s.Tuple.Proto, Hop: 64, Data: b}
	if p.Fam == 6 && r.Intn(2) == 0 {
		p.Proto, p.Data = 60, slices.Concat([]byte{byte(s.Tuple.Proto), 0, 1, 4, 0, 0, 0, 0}, b)
	}
	return p
}

// cut are the fragments of a packet of more than 56 bytes, the first of them of 40 bytes at least, the others of 16 at least, but for the last one.
func cut(r *rand.Rand, p api.Ip, id uint32) []api.Ip {
	var all []api.Ip
	for off := 0; off < len(p.Data); {
		n := 8 * (2 + r.Intn(6))
		if off == 0 {
			n = max(n, 40)
		}
		q := p
		q.Frag, q.Id, q.Off = true, id, off
		q.More = off+n < len(p.Data)
		q.Data = p.Data[off:min(off+n, len(p.Data))]
		all = append(all, q)
		off += n
	}
	return all
}

// frame are a packet's bytes.
func frame(t *testing.T, p api.Ip) []byte {
	t.Helper()
	build := ip4.Build
	if p.Fam == 6 {
		build = ip6.Build
	}
	b, e := build(p)
	if e != api.OK {
		t.Fatalf("Build(%v): %v", p, e)
	}
	return b
}

// put reads a frame, and puts it into a table.
func put(t *testing.T, f *frag.Table, b []byte) (api.Ip, api.Errno) {
	t.Helper()
	parse := ip4.Parse
	if b[0]>>4 == 6 {
		parse = ip6.Parse
	}
	p, e := parse(b)
	if e != api.OK {
		t.Fatalf("Parse(%v): %v", b, e)
	}
	return f.Put(p)
}

// carried asks for the segment that a datagram carries.
func carried(t *testing.T, p api.Ip, want api.Seg) {
	t.Helper()
	if p.Fam == 6 {
		proto, _, rest, e := ip6.Walk(p.Proto, p.Data)
		if e != api.OK {
			t.Fatalf("Walk: %v", e)
		}
		p.Proto, p.Data = proto, rest
	}
	got, e := seg.Parse(p)
	if e != api.OK || got.Tuple != want.Tuple || got.Flags != want.Flags || got.Seq != want.Seq || got.Ack != want.Ack ||
		got.Win != want.Win || got.Type != want.Type || got.Code != want.Code || got.Err || !bytes.Equal(got.Data, want.Data) {
		t.Fatalf("%v, %v, want %v", got, e, want)
	}
}

// However a datagram is cut, and in whatever order its frames come, it is there with the last one, as it was sent.
func TestLayersWhole(t *testing.T) {
	r := rand.New(rand.NewSource(3))
	for _, fam := range families {
		for id := range 500 {
			f := made(t, 1, 2000, 30)
			s := segment(r, fam, 60+r.Intn(400))
			p := carrier(t, r, s)
			whole, e := put(t, f, frame(t, p))
			if e != api.OK {
				t.Fatal(e)
			}
			carried(t, whole, s)
			pieces := cut(r, p, uint32(id))
			order := r.Perm(len(pieces))
			for i, at := range order {
				got, e := put(t, f, frame(t, pieces[at]))
				if i < len(order)-1 {
					if e != api.ErrWait || !same(got, api.Ip{}) {
						t.Fatalf("fragment %d of %d: %v, %v", i, len(order), got, e)
					}
					continue
				}
				if e != api.OK || got.Frag {
					t.Fatalf("the last of %d: %v, %v", len(order), got, e)
				}
				carried(t, got, s)
			}
			counts(t, "none is left", f, 0, 0)
		}
	}
}

// A datagram of which two fragments overlap never goes through, wherever the second one of them comes in; behind its time it does, if it comes anew.
func TestLayersOverlap(t *testing.T) {
	r := rand.New(rand.NewSource(33))
	for _, fam := range families {
		for id := range 500 {
			f := made(t, 1, 2000, 30)
			s := segment(r, fam, 100+r.Intn(400))
			p := carrier(t, r, s)
			pieces := cut(r, p, uint32(id))
			at := r.Intn(len(pieces) - 1) // it begins within this one, which has at least 16 bytes, so that it can't take its place
			over := pieces[at]
			over.Off, over.More, over.Data = over.Off+8, true, make([]byte, 8*(1+r.Intn(3)))
			order := []api.Ip{}
			for _, i := range r.Perm(len(pieces)) {
				order = append(order, pieces[i])
			}
			order = slices.Insert(order, r.Intn(len(order)), over)
			met := false
			for i, q := range order {
				got, e := put(t, f, frame(t, q))
				if e == api.OK || met && e != api.ErrOver || !same(got, api.Ip{}) {
					t.Fatalf("fragment %d of %d: %v, %v", i, len(order), got, e)
				}
				met = e == api.ErrOver
			}
			if !met {
				t.Fatalf("%d fragments, none of which was told to overlap", len(order))
			}
			counts(t, "dead", f, 1, 0)
			ticked(t, f, 30)
			for i, q := range pieces {
				got, e := put(t, f, frame(t, q))
				if i == len(pieces)-1 {
					if e != api.OK {
						t.Fatal(e)
					}
					carried(t, got, s)
				} else if e != api.ErrWait {
					t.Fatal(e)
				}
			}
		}
	}
}

// Frames of many datagrams that come mixed are put together each by itself.
func TestLayersMixed(t *testing.T) {
	r := rand.New(rand.NewSource(333))
	f := wide(t)
	type sent struct {
		b    []byte
		gram int
	}
	var frames []sent
	var segs []api.Seg
	for gram := range 200 {
		s := segment(r, families[gram%2], 60+r.Intn(300))
		segs = append(segs, s)
		for _, q := range cut(r, carrier(t, r, s), uint32(gram)) {
			frames = append(frames, sent{frame(t, q), gram})
		}
	}
	r.Shuffle(len(frames), func(i, j int) { frames[i], frames[j] = frames[j], frames[i] })
	left := map[int]int{}
	for _, x := range frames {
		left[x.gram]++
	}
	for _, x := range frames {
		left[x.gram]--
		got, e := put(t, f, x.b)
		switch {
		case left[x.gram] > 0 && e != api.ErrWait:
			t.Fatal(e)
		case left[x.gram] == 0 && e != api.OK:
			t.Fatal(e)
		case left[x.gram] == 0:
			carried(t, got, segs[x.gram])
		}
	}
	counts(t, "none is left", f, 0, 0)
}
