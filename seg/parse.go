package seg

import (
	"slices"

	"stockade/addr"
	"stockade/api"
	"stockade/ip6"
	"stockade/wire"
)

// packet is one whose addresses may be; its methods read what it carries.
type packet api.Ip

// Parse reads what a packet carries.
func Parse(p api.Ip) (api.Seg, api.Errno) {
	if !ofFamily(p.Fam, p.Src, p.Dst) {
		return api.Seg{}, api.ErrArg
	}
	read, known := readers(p.Fam)[p.Proto]
	if !known {
		return api.Seg{}, api.ErrProto
	}
	return read(packet(p))
}

// readers are what reads each protocol of a family.
func readers(fam int) map[int]func(p packet) (api.Seg, api.Errno) {
	return map[int]func(p packet) (api.Seg, api.Errno){
		api.TCP:     packet.tcp,
		api.UDP:     packet.udp,
		icmpOf(fam): packet.icmp,
	}
}

// tcp reads a packet's TCP.
func (p packet) tcp() (api.Seg, api.Errno) {
	b := p.Data
	if len(b) < tcpHead {
		return api.Seg{}, api.ErrShort
	}
	head, flags := int(b[12]>>4)*4, int(b[13])&allFlags
	switch {
	case head < tcpHead || head > len(b):
		return api.Seg{}, api.ErrHead
	case !p.sumsUp(b):
		return api.Seg{}, api.ErrSum
	case !rightFlags(flags):
		return api.Seg{}, api.ErrFlags
	}
	seq, _ := wire.U32(b, 4)
	ack, _ := wire.U32(b, 8)
	return api.Seg{Tuple: p.way(), Flags: flags, Seq: seq, Ack: ack, Win: u16(b, 14), Data: slices.Clone(b[head:])}, api.OK
}

// udp reads a packet's UDP. Its own length holds, not the packet's.
func (p packet) udp() (api.Seg, api.Errno) {
	if len(p.Data) < udpHead {
		return api.Seg{}, api.ErrShort
	}
	size := u16(p.Data, 4)
	if size < udpHead || size > len(p.Data) {
		return api.Seg{}, api.ErrLen
	}
	b := p.Data[:size]
	unsummed := u16(b, 6) == 0
	if unsummed && p.Fam == 6 || !unsummed && !p.sumsUp(b) {
		return api.Seg{}, api.ErrSum
	}
	return api.Seg{Tuple: p.way(), Data: slices.Clone(b[udpHead:])}, api.OK
}

// icmp reads a packet's ICMP.
func (p packet) icmp() (api.Seg, api.Errno) {
	b := p.Data
	switch {
	case len(b) < icmpHead:
		return api.Seg{}, api.ErrShort
	case !p.sumsUp(b):
		return api.Seg{}, api.ErrSum
	}
	s := api.Seg{Tuple: p.way(), Type: int(b[0]), Code: int(b[1]), Data: slices.Clone(b[icmpHead:])}
	if IsError(p.Fam, s.Type) {
		inner, found := innerWay(p.Fam, s.Data)
		if !found {
			return api.Seg{}, api.ErrHead
		}
		s.Err, s.Inner = true, inner
	}
	return s, api.OK
}

// ends is the way of a packet, but for its ports.
func (p packet) ends() api.Tuple {
	return api.Tuple{Fam: p.Fam, Proto: p.Proto, Src: p.Src, Dst: p.Dst}
}

// way is the way of a packet that carries at least 8 bytes.
func (p packet) way() api.Tuple {
	return withPorts(p.ends(), p.Data)
}

// sumsUp tells whether b, the bytes of what a packet carries, have the sum that they should.
func (p packet) sumsUp(b []byte) bool {
	return wire.Sum(summed(p.ends(), len(b)), b) == rightSum
}

// withPorts is a way with the ports that b, at least 8 bytes of what goes that way, tells.
func withPorts(w api.Tuple, b []byte) api.Tuple {
	switch w.Proto {
	case api.TCP, api.UDP:
		w.Sport, w.Dport = u16(b, 0), u16(b, 2)
	case icmpOf(w.Fam):
		if isEcho(w.Fam, int(b[0])) {
			w.Sport, w.Dport = u16(b, 4), u16(b, 4)
		}
	}
	return w
}

// u16 is the number in two bytes of b that are there.
func u16(b []byte, at int) int {
	n, _ := wire.U16(b, at)
	return n
}

// rightFlags tells whether flags may be.
func rightFlags(flags int) bool {
	switch {
	case flags&(api.SYN|api.RST|api.ACK) == 0:
		return false
	case flags&api.SYN != 0 && flags&(api.FIN|api.RST) != 0:
		return false
	case flags&api.FIN != 0 && flags&api.ACK == 0:
		return false
	}
	return true
}

// leastBehind is how many bytes behind its headers an error tells of the packet that it is about, at least.
const leastBehind = 8

// innerWay is the way of the packet with which b, an error's Data, begins, and whether there is one. That packet may be cut off, so nothing of it is asked for but what tells its way.
func innerWay(fam int, b []byte) (api.Tuple, bool) {
	switch {
	case len(b) == 0 || int(b[0]>>4) != fam:
		return api.Tuple{}, false
	case fam == 4:
		return innerWay4(b)
	}
	return innerWay6(b)
}

// innerWay4 is the inner way of family 4.
func innerWay4(b []byte) (api.Tuple, bool) {
	head := int(b[0]&15) * 4
	if head < 20 || len(b)-head < leastBehind {
		return api.Tuple{}, false
	}
	w := api.Tuple{Fam: 4, Proto: int(b[9]), Src: addrAt(b, 12, 4), Dst: addrAt(b, 16, 4)}
	return withPorts(w, b[head:]), true
}

// innerWay6 is the inner way of family 6.
func innerWay6(b []byte) (api.Tuple, bool) {
	if len(b) < 40 {
		return api.Tuple{}, false
	}
	proto, _, rest, e := ip6.Walk(int(b[6]), b[40:])
	if e != api.OK || len(rest) < leastBehind {
		return api.Tuple{}, false
	}
	w := api.Tuple{Fam: 6, Proto: proto, Src: addrAt(b, 8, 16), Dst: addrAt(b, 24, 16)}
	return withPorts(w, rest), true
}

// addrAt is the address in the n bytes of b from at on, which are there.
func addrAt(b []byte, at, n int) api.Addr {
	part, _ := wire.Part(b, at, n)
	a, _ := addr.From(part)
	return a
}
