package frag

import (
	"slices"

	"stockade/api"
)

// gram is a datagram of which fragments have come, none of which share a byte, and none of which goes past the end of the last one; or a dead one, which has none.
type gram struct {
	ends   int // when it is gone
	dead   bool
	head   api.Ip // the packet at the place 0, but for its Data
	pieces []piece
	size   int  // bytes of all pieces
	reach  int  // where the furthest piece ends
	last   bool // a piece without More is there: it is the furthest one
}

// piece is the Data of a fragment, and where it begins.
type piece struct {
	off  int
	data []byte
}

// clashes tells whether a fragment can't be one of the datagram's.
func (g gram) clashes(p api.Ip) bool {
	end := p.Off + len(p.Data)
	shares := func(q piece) bool { return p.Off < q.off+len(q.data) && q.off < end }
	switch {
	case g.last && (!p.More || end > g.reach):
		return true
	case !p.More && g.reach > end:
		return true
	}
	return slices.ContainsFunc(g.pieces, shares)
}

// add takes a fragment that does not clash.
func (g *gram) add(p api.Ip) {
	if p.Off == 0 {
		g.head = api.Ip{Fam: p.Fam, Src: p.Src, Dst: p.Dst, Proto: p.Proto, Hop: p.Hop, Exts: slices.Clone(p.Exts)}
	}
	g.pieces = append(g.pieces, piece{p.Off, slices.Clone(p.Data)})
	g.size += len(p.Data)
	g.reach = max(g.reach, p.Off+len(p.Data))
	g.last = g.last || !p.More
}

// whole tells whether all bytes are there: as no two pieces share any, counting them is enough.
func (g gram) whole() bool {
	return g.last && g.size == g.reach
}

// datagram is what a whole one's pieces make.
func (g gram) datagram() api.Ip {
	p := g.head
	p.Data = make([]byte, g.reach)
	for _, q := range g.pieces {
		copy(p.Data[q.off:], q.data)
	}
	return p
}
