package seg_test

import (
	"bytes"
	"encoding/binary"
	"math"
	"slices"
	"testing"

	"stockade/api"
	"stockade/seg"
)

// The ends of ordinary packets, and their bytes.
var (
	from4  = api.Addr{Fam: 4, Lo: 0x0a000001}
	to4    = api.Addr{Fam: 4, Lo: 0x0a000002}
	bytes4 = []byte{10, 0, 0, 1, 10, 0, 0, 2}

	from6  = api.Addr{Fam: 6, Hi: 0x20010db800010203, Lo: 0x0405060708090a0b}
	to6    = api.Addr{Fam: 6, Hi: 0xff02000000000000, Lo: 0x00000000000000fe}
	bytes6 = []byte{0x20, 1, 0x0d, 0xb8, 0, 1, 2, 3, 4, 5, 6, 7, 8, 9, 10, 11, 0xff, 2, 0, 0, 0, 0, 0, 0, 0, 0, 0, 0, 0, 0, 0, 0xfe}
)

// families are those that have addresses.
var families = []int{4, 6}

// wrongAddrs are addresses that may not be.
var wrongAddrs = []api.Addr{
	{}, {Lo: 1}, {Fam: 5, Lo: 1}, {Fam: -4, Lo: 1}, {Fam: 7}, {Fam: math.MinInt}, {Fam: math.MaxInt, Hi: 1},
	{Fam: 4, Hi: 1, Lo: 1}, {Fam: 4, Lo: 1 << 32}, {Fam: 4, Hi: math.MaxUint64, Lo: math.MaxUint64},
}

// strange are numbers that stand for no family and no protocol.
var strange = []int{math.MinInt, -58, -17, -6, -4, -1, 2, 3, 5, 7, 16, 18, 43, 44, 57, 59, 60, 255, 256, 257, 260, 262, 273, 314, 1 << 32, 1<<32 + 4, 1<<32 + 6, math.MaxInt}

// ends are the ordinary packets' sender and receiver.
func ends(fam int) (api.Addr, api.Addr) {
	if fam == 4 {
		return from4, to4
	}
	return from6, to6
}

// icmp is ICMP's protocol in a family.
func icmp(fam int) int {
	return map[int]int{4: 1, 6: 58}[fam]
}

// count are n bytes, each other than its neighbours.
func count(n int) []byte {
	b := make([]byte, n)
	for i := range b {
		b[i] = byte(i + 1)
	}
	return b
}

// be16 are the two bytes of each number.
func be16(numbers ...int) []byte {
	var b []byte
	for _, n := range numbers {
		b = binary.BigEndian.AppendUint16(b, uint16(n))
	}
	return b
}

// plainPseudo is the ordinary ends' pseudo header, written by hand.
func plainPseudo(fam, proto, size int) []byte {
	if fam == 4 {
		return slices.Concat(bytes4, []byte{0, byte(proto)}, be16(size))
	}
	return slices.Concat(bytes6, be16(size>>16, size), []byte{0, 0, 0, byte(proto)})
}

// P5.1

func TestPseudo(t *testing.T) {
	want := []byte{10, 0, 0, 1, 10, 0, 0, 2, 0, 17, 0, 12}
	if b := seg.Pseudo(from4, to4, 17, 12); !bytes.Equal(b, want) {
		t.Error("family 4:", b)
	}
	want = slices.Concat(bytes6, []byte{0, 1, 0x12, 0x34, 0, 0, 0, 58})
	if b := seg.Pseudo(from6, to6, 58, 0x11234); !bytes.Equal(b, want) {
		t.Error("family 6:", b)
	}
	if b := seg.Pseudo(to4, from4, 17, 12); !bytes.Equal(b[:8], []byte{10, 0, 0, 2, 10, 0, 0, 1}) {
		t.Error("family 4 the other way round:", b)
	}
	if b := seg.Pseudo(to6, from6, 17, 12); !bytes.Equal(b[:32], slices.Concat(bytes6[16:], bytes6[:16])) {
		t.Error("family 6 the other way round:", b)
	}
	none, all := api.Addr{Fam: 4}, api.Addr{Fam: 4, Lo: math.MaxUint32}
	if b := seg.Pseudo(none, all, 0, 0); !bytes.Equal(b, []byte{0, 0, 0, 0, 255, 255, 255, 255, 0, 0, 0, 0}) {
		t.Error("the least and the greatest address of family 4:", b)
	}
	none, all = api.Addr{Fam: 6}, api.Addr{Fam: 6, Hi: math.MaxUint64, Lo: math.MaxUint64}
	want = slices.Concat(make([]byte, 16), bytes.Repeat([]byte{255}, 16), make([]byte, 8))
	if b := seg.Pseudo(none, all, 0, 0); !bytes.Equal(b, want) {
		t.Error("the least and the greatest address of family 6:", b)
	}
}

func TestPseudoLowBits(t *testing.T) {
	protos := append([]int{0, 1, 6, 17, 58, 255, 256, 0x1ff, 0x12345, -2}, strange...)
	sizes := []int{0, 1, 255, 256, 65535, 65536, 65537, 0x12345678, math.MaxUint32, math.MaxUint32 + 1, 0x123456789abcdef, -1, -2, -65536, math.MinInt, math.MaxInt}
	for _, proto := range protos {
		for _, size := range sizes {
			want := slices.Concat(bytes4, []byte{0, byte(proto & 255), byte(size >> 8 & 255), byte(size & 255)})
			if b := seg.Pseudo(from4, to4, proto, size); !bytes.Equal(b, want) {
				t.Error(4, proto, size, b)
			}
			want = slices.Concat(bytes6, []byte{byte(size >> 24 & 255), byte(size >> 16 & 255), byte(size >> 8 & 255), byte(size & 255), 0, 0, 0, byte(proto & 255)})
			if b := seg.Pseudo(from6, to6, proto, size); !bytes.Equal(b, want) {
				t.Error(6, proto, size, b)
			}
		}
	}
}

func TestPseudoNothing(t *testing.T) {
	nothing := func(src, dst api.Addr) {
		t.Helper()
		if b := seg.Pseudo(src, dst, 17, 12); len(b) != 0 {
			t.Error(src, dst, b)
		}
	}
	for _, wrong := range wrongAddrs {
		for _, fam := range families {
			src, dst := ends(fam)
			nothing(wrong, dst)
			nothing(src, wrong)
		}
		nothing(wrong, wrong)
	}
	nothing(from4, to6)
	nothing(from6, to4)
}

func TestIsError(t *testing.T) {
	errors := map[int][]int{4: {3, 11, 12}, 6: {1, 2, 3, 4}}
	for _, fam := range families {
		for kind := -300; kind < 600; kind++ {
			if seg.IsError(fam, kind) != slices.Contains(errors[fam], kind) {
				t.Error(fam, kind)
			}
		}
		for _, kind := range []int{math.MinInt, math.MaxInt, 1<<32 + 3, 1<<40 + 11} {
			if seg.IsError(fam, kind) {
				t.Error(fam, kind)
			}
		}
	}
}

func TestIsErrorStrangeFamily(t *testing.T) {
	fams := []int{math.MinInt, -6, -4, -1, 0, 1, 2, 3, 5, 7, 8, 10, 58, 255, 260, 262, 1<<32 + 4, math.MaxInt}
	for _, fam := range fams {
		for kind := -2; kind < 258; kind++ {
			if seg.IsError(fam, kind) {
				t.Error(fam, kind)
			}
		}
	}
}

// R4

func TestPseudoIsTheCallers(t *testing.T) {
	for _, fam := range families {
		src, dst := ends(fam)
		one := seg.Pseudo(src, dst, 17, 12)
		for i := range one {
			one[i] ^= 255
		}
		_ = append(one, 1, 2, 3)
		if two := seg.Pseudo(src, dst, 17, 12); !bytes.Equal(two, plainPseudo(fam, 17, 12)) {
			t.Error(fam, two)
		}
	}
}
