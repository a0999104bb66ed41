package ip6

import (
	"stockade/api"
	"stockade/wire"
)

// The extension headers.
const (
	eachHop  = 0
	route    = 43
	fragment = 44
	theEnd   = 60
)

// The numbers of a fragment's header.
const (
	unit     = 8 // bytes that one step of the place is
	placeSet = 65535 - (unit - 1)
	moreFlag = 1
)

// highBits are the bits of an option's kind that say what becomes of a packet whose reader does not know it: 0 is to go on.
const highBits = 3 << 6

// walk is how far extension headers were gone over.
type walk struct {
	next int
	rest []byte // the bytes behind those headers
	exts []int
	met  bool // a fragment's header lies ahead
	cut  bool // there is more of the datagram than this: the walk ends here
	id   uint32
	off  int
	more bool
}

// run goes over all extension headers from the next one on.
func (w *walk) run() api.Errno {
	looks := w.looks()
	for !w.cut {
		look, extension := looks[w.next]
		if !extension {
			break
		}
		if len(w.exts) == api.MaxExts {
			return api.ErrMany
		}
		n := size(w.next, w.rest)
		if n > len(w.rest) {
			return api.ErrHead
		}
		if e := look(w.rest[:n]); e != api.OK {
			return e
		}
		w.exts = append(w.exts, w.next)
		w.next, w.rest = int(w.rest[0]), w.rest[n:]
	}
	return api.OK
}

// looks are what is looked at in each extension header, once its bytes are known to be there.
func (w *walk) looks() map[int]func(head []byte) api.Errno {
	return map[int]func(head []byte) api.Errno{
		eachHop: func(head []byte) api.Errno {
			if w.met || len(w.exts) > 0 {
				return api.ErrOpt
			}
			return options(head)
		},
		route:    routed,
		fragment: w.fragment,
		theEnd:   options,
	}
}

// size is how many bytes the extension header has with which b begins. One that is too short to tell has more than are there.
func size(kind int, b []byte) int {
	if kind == fragment || len(b) < 2 {
		return 8
	}
	return (int(b[1]) + 1) * 8
}

// options is what is wrong with a header's options.
func options(head []byte) api.Errno {
	for b := head[2:]; len(b) > 0; {
		n := 1
		if b[0] != 0 {
			if b[0]&highBits != 0 || len(b) < 2 || int(b[1]) > len(b)-2 {
				return api.ErrOpt
			}
			n = 2 + int(b[1])
		}
		b = b[n:]
	}
	return api.OK
}

// routed is what is wrong with a route: one that still leads elsewhere, or is of the kind that nobody may use any more.
func routed(head []byte) api.Errno {
	if head[3] != 0 || head[2] == 0 {
		return api.ErrRoute
	}
	return api.OK
}

// fragment takes a fragment's numbers. A header that cuts nothing off does not end the walk, but no other one may follow it.
func (w *walk) fragment(head []byte) api.Errno {
	if w.met {
		return api.ErrOpt
	}
	w.met = true
	n, _ := wire.U16(head, 2)
	w.id, _ = wire.U32(head, 4)
	w.off, w.more = n&placeSet, n&moreFlag != 0
	w.cut = w.off != 0 || w.more
	return api.OK
}
