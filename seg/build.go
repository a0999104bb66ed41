package seg

import (
	"slices"

	"stockade/api"
	"stockade/wire"
)

const maxData = 65000 // bytes of Data that are written

// Build writes a segment.
func Build(s api.Seg) ([]byte, api.Errno) {
	w := s.Tuple
	if !ofFamily(w.Fam, w.Src, w.Dst) || !rightProto(w) || !rightNumbers(s) || len(s.Data) > maxData {
		return nil, api.ErrArg
	}
	head, place := written(s)
	b := slices.Concat(head, s.Data)
	check := wire.Check(summed(w, len(b)), b)
	if check == 0 && w.Proto == api.UDP {
		check = rightSum // in UDP a 0 there says that nothing was summed; this one sums up to the same
	}
	b[place], b[place+1] = byte(check>>8), byte(check)
	return b, api.OK
}

// rightProto tells whether a way's protocol is one of its family, which is 4 or 6.
func rightProto(w api.Tuple) bool {
	return w.Proto == api.TCP || w.Proto == api.UDP || w.Proto == icmpOf(w.Fam)
}

// rightNumbers tells whether all numbers of a segment have room in their bytes, also those that its protocol does not write.
func rightNumbers(s api.Seg) bool {
	return upTo(65535, s.Tuple.Sport, s.Tuple.Dport, s.Win) && upTo(255, s.Type, s.Code) && upTo(allFlags, s.Flags)
}

// upTo tells whether all numbers are from 0 to most.
func upTo(most int, numbers ...int) bool {
	return !slices.ContainsFunc(numbers, func(n int) bool { return n < 0 || n > most })
}

// written is a segment's header, with 0 as its check sum, and that one's place.
func written(s api.Seg) ([]byte, int) {
	switch s.Tuple.Proto {
	case api.TCP:
		b := wire.Put32(wire.Put32(portBytes(s.Tuple), s.Seq), s.Ack)
		b = wire.Put16(append(b, tcpHead/4<<4, byte(s.Flags)), s.Win)
		return append(b, 0, 0, 0, 0), 16
	case api.UDP:
		return append(wire.Put16(portBytes(s.Tuple), udpHead+len(s.Data)), 0, 0), 6
	}
	number := 0
	if isEcho(s.Tuple.Fam, s.Type) {
		number = s.Tuple.Sport
	}
	b := wire.Put16([]byte{byte(s.Type), byte(s.Code), 0, 0}, number)
	return append(b, 0, 0), 2
}

// portBytes are the bytes of a way's ports.
func portBytes(w api.Tuple) []byte {
	return wire.Put16(wire.Put16(nil, w.Sport), w.Dport)
}
