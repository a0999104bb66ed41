package wire_test

import (
	"bytes"
	"math"
	"math/rand"
	"slices"
	"testing"

	"stockade/wire"
)

// farPlaces are places and counts at which adding or subtracting without care goes round.
var farPlaces = []int{math.MinInt, math.MinInt + 1, math.MinInt32, -5, -4, -3, -2, -1, math.MaxInt32, math.MaxInt - 4, math.MaxInt - 3, math.MaxInt - 2, math.MaxInt - 1, math.MaxInt}

// someBytes are the same n bytes for the same seed.
func someBytes(seed int64, n int) []byte {
	r := rand.New(rand.NewSource(seed))
	b := make([]byte, n)
	for i := range b {
		b[i] = byte(r.Intn(256))
	}
	return b
}

// plainSum is the chapter's sum of bytes in its own words: all words are added, and the end is folded.
func plainSum(b []byte) int {
	b = append(bytes.Clone(b), make([]byte, len(b)%2)...)
	var total uint64
	for i := 0; i < len(b); i += 2 {
		total += uint64(b[i])*256 + uint64(b[i+1])
	}
	for total > 65535 {
		total = total/65536 + total%65536
	}
	return int(total)
}

// cut cuts b into parts whose lengths go through lengths again and again.
func cut(b []byte, lengths ...int) [][]byte {
	var parts [][]byte
	for i := 0; len(b) > 0; i++ {
		n := min(lengths[i%len(lengths)], len(b))
		parts = append(parts, b[:n])
		b = b[n:]
	}
	return parts
}

// P1.1

func TestU16(t *testing.T) {
	b := []byte{1, 2, 3, 0xff, 0xfe, 0, 0x80}
	want := []int{0x0102, 0x0203, 0x03ff, 0xfffe, 0xfe00, 0x0080}
	for at, w := range want {
		if n, ok := wire.U16(b, at); n != w || !ok {
			t.Errorf("U16 at %d: %d %v, want %d", at, n, ok, w)
		}
	}
	if n, ok := wire.U16([]byte{1, 2, 3}, 1); n != 515 || !ok {
		t.Error("the chapter's example:", n, ok)
	}
}

func TestU16Outside(t *testing.T) {
	for length := range 5 {
		b := bytes.Repeat([]byte{0xff}, length)
		places := append([]int{length - 1, length, length + 1, length + 2}, farPlaces...)
		for _, at := range places {
			if n, ok := wire.U16(b, at); n != 0 || ok {
				t.Errorf("U16 of %d bytes at %d: %d %v", length, at, n, ok)
			}
		}
	}
	if n, ok := wire.U16(nil, 0); n != 0 || ok {
		t.Error("U16 of nil:", n, ok)
	}
}

func TestU32(t *testing.T) {
	b := []byte{1, 2, 3, 4, 0xff, 0xfe, 0xfd, 0xfc, 0, 0, 0, 0x80}
	for at, w := range map[int]uint32{0: 0x01020304, 1: 0x020304ff, 3: 0x04fffefd, 4: 0xfffefdfc, 7: 0xfc000000, 8: 0x80} {
		if n, ok := wire.U32(b, at); n != w || !ok {
			t.Errorf("U32 at %d: %d %v, want %d", at, n, ok, w)
		}
	}
	if n, ok := wire.U32([]byte{0xff, 0xff, 0xff, 0xff}, 0); n != math.MaxUint32 || !ok {
		t.Error("U32 of ones:", n, ok)
	}
}

func TestU32Outside(t *testing.T) {
	for length := range 7 {
		b := bytes.Repeat([]byte{0xff}, length)
		places := append([]int{length - 3, length - 2, length - 1, length, length + 1, length + 4}, farPlaces...)
		for _, at := range places {
			if n, ok := wire.U32(b, at); n != 0 || ok {
				t.Errorf("U32 of %d bytes at %d: %d %v", length, at, n, ok)
			}
		}
	}
	if n, ok := wire.U32(nil, 0); n != 0 || ok {
		t.Error("U32 of nil:", n, ok)
	}
}

func TestPart(t *testing.T) {
	b := []byte{10, 11, 12, 13, 14}
	for at := 0; at <= len(b); at++ {
		for n := 0; n <= len(b)-at; n++ {
			p, ok := wire.Part(b, at, n)
			if !ok || !bytes.Equal(p, b[at:at+n]) {
				t.Errorf("Part at %d of %d: %v %v", at, n, p, ok)
			}
		}
	}
	if p, ok := wire.Part(nil, 0, 0); len(p) != 0 || !ok {
		t.Error("no bytes of nil:", p, ok)
	}
}

func TestPartOutside(t *testing.T) {
	b := []byte{10, 11, 12, 13, 14}
	refuse := func(b []byte, at, n int) {
		t.Helper()
		if p, ok := wire.Part(b, at, n); len(p) != 0 || ok {
			t.Errorf("Part of %d bytes at %d of %d: %v %v", len(b), at, n, p, ok)
		}
	}
	for at := 0; at <= len(b); at++ {
		refuse(b, at, len(b)-at+1)
		for _, n := range farPlaces {
			refuse(b, at, n)
		}
	}
	for _, at := range append([]int{len(b) + 1, len(b) + 2}, farPlaces...) {
		for n := range 7 {
			refuse(b, at, n)
		}
		for _, n := range farPlaces {
			refuse(b, at, n)
		}
	}
	refuse(nil, 0, 1)
	refuse(nil, 1, 0)
	refuse([]byte{}, -1, 1)
}

func TestPlacesEndAtLength(t *testing.T) {
	// What lies behind the length, in the capacity, is no part of b.
	b := []byte{1, 2, 3, 4, 5, 6, 7, 8}[:3]
	if n, ok := wire.U16(b, 2); n != 0 || ok {
		t.Error("U16:", n, ok)
	}
	if n, ok := wire.U32(b, 0); n != 0 || ok {
		t.Error("U32:", n, ok)
	}
	if p, ok := wire.Part(b, 1, 3); len(p) != 0 || ok {
		t.Error("Part:", p, ok)
	}
}

// P1.2

func TestPut16(t *testing.T) {
	for _, c := range []struct {
		n    int
		want [2]byte
	}{
		{0, [2]byte{0, 0}},
		{1, [2]byte{0, 1}},
		{0x0102, [2]byte{1, 2}},
		{65535, [2]byte{0xff, 0xff}},
		{65536, [2]byte{0, 0}},
		{65537, [2]byte{0, 1}},
		{0x7fffffff1234abcd, [2]byte{0xab, 0xcd}},
		{-1, [2]byte{0xff, 0xff}},
		{-2, [2]byte{0xff, 0xfe}},
		{-65535, [2]byte{0, 1}},
		{-65536, [2]byte{0, 0}},
		{-65537, [2]byte{0xff, 0xff}},
		{math.MaxInt, [2]byte{0xff, 0xff}},
		{math.MinInt, [2]byte{0, 0}},
		{math.MinInt + 258, [2]byte{1, 2}},
	} {
		for _, b := range [][]byte{nil, {}, {7}, {7, 8, 9}} {
			want := append(bytes.Clone(b), c.want[0], c.want[1])
			if got := wire.Put16(b, c.n); !bytes.Equal(got, want) {
				t.Errorf("Put16(%v, %d): %v, want %v", b, c.n, got, want)
			}
		}
	}
}

func TestPut32(t *testing.T) {
	for _, c := range []struct {
		n    uint32
		want [4]byte
	}{
		{0, [4]byte{0, 0, 0, 0}},
		{1, [4]byte{0, 0, 0, 1}},
		{0x01020304, [4]byte{1, 2, 3, 4}},
		{0x80000000, [4]byte{0x80, 0, 0, 0}},
		{0xfffefdfc, [4]byte{0xff, 0xfe, 0xfd, 0xfc}},
		{math.MaxUint32, [4]byte{0xff, 0xff, 0xff, 0xff}},
	} {
		for _, b := range [][]byte{nil, {}, {7}, {7, 8, 9}} {
			want := append(bytes.Clone(b), c.want[:]...)
			if got := wire.Put32(b, c.n); !bytes.Equal(got, want) {
				t.Errorf("Put32(%v, %d): %v, want %v", b, c.n, got, want)
			}
		}
	}
	// Numbers above 32 bits, and below 0, come in as their low 32 bits.
	for n, want := range map[int64]uint32{1<<32 + 5: 5, -1: math.MaxUint32, -1 << 31: 1 << 31, math.MinInt64: 0} {
		if got, ok := wire.U32(wire.Put32(nil, uint32(n)), 0); got != want || !ok {
			t.Errorf("Put32 of %d: %d %v", n, got, ok)
		}
	}
}

// P1.3

func TestSumAndCheck(t *testing.T) {
	for _, c := range []struct {
		name  string
		parts [][]byte
		want  int
	}{
		{"no parts", nil, 0},
		{"one nil part", [][]byte{nil}, 0},
		{"empty parts", [][]byte{{}, nil, {}}, 0},
		{"the example", [][]byte{{69, 0, 1}}, 17920},
		{"the example cut behind an odd byte", [][]byte{{69}, {0, 1}}, 17920},
		{"a word", [][]byte{{1, 2}}, 258},
		{"a single byte", [][]byte{{0xab}}, 0xab00},
		{"a last single 0", [][]byte{{1, 2, 0}}, 258},
		{"a last single byte", [][]byte{{1, 2, 3}}, 258 + 768},
		{"a word over two parts", [][]byte{{1}, {2}}, 258},
		{"a word over an empty part", [][]byte{{1}, {}, nil, {2}}, 258},
		{"three parts of one byte", [][]byte{{1}, {2}, {3}}, 258 + 768},
		{"odd parts one behind the other", [][]byte{{1, 2, 3}, {4, 5, 6}, {7}}, 0x0102 + 0x0304 + 0x0506 + 0x0700},
		{"an even part between odd ones", [][]byte{{1}, {2, 3}, {4}}, 0x0102 + 0x0304},
		{"the greatest that is not folded", [][]byte{{0xff, 0xfe, 0, 1}}, 65535},
		{"just folded", [][]byte{{0xff, 0xff, 0, 1}}, 1},
		{"twice the greatest", [][]byte{{0xff, 0xff, 0xff, 0xff}}, 65535},
		{"folded twice", [][]byte{{0xff, 0xff, 0xff, 0xff, 0, 1}}, 1},
		{"folded by a last single byte", [][]byte{{0xff, 0xff, 0xff}}, 0xff00},
		{"folded over parts", [][]byte{{0xff}, {0xff, 0xff}, {0xff, 0}, {1}}, 1},
	} {
		if got := wire.Sum(c.parts...); got != c.want {
			t.Errorf("%s: sum %d, want %d", c.name, got, c.want)
		}
		if got := wire.Check(c.parts...); got != 65535-c.want {
			t.Errorf("%s: check %d, want %d", c.name, got, 65535-c.want)
		}
	}
}

func TestSumHoweverCut(t *testing.T) {
	for seed := range int64(60) {
		b := someBytes(seed, int(seed))
		want := plainSum(b)
		for _, lengths := range [][]int{{60}, {1}, {2}, {3}, {1, 0, 2}, {5, 4}, {0, 7, 0, 1}} {
			parts := cut(b, lengths...)
			if got := wire.Sum(parts...); got != want {
				t.Errorf("%d bytes cut by %v: sum %d, want %d", len(b), lengths, got, want)
			}
			if got := wire.Check(parts...); got != 65535-want {
				t.Errorf("%d bytes cut by %v: check %d, want %d", len(b), lengths, got, 65535-want)
			}
		}
	}
}

func TestSumOfManyBytes(t *testing.T) {
	for _, n := range []int{1 << 16, 1<<18 + 1} {
		ones := bytes.Repeat([]byte{0xff}, n)
		if got, want := wire.Sum(ones, ones, ones), plainSum(bytes.Repeat(ones, 3)); got != want {
			t.Errorf("three parts of %d ones: %d, want %d", n, got, want)
		}
		mixed := someBytes(int64(n), n)
		if got, want := wire.Sum(mixed), plainSum(mixed); got != want {
			t.Errorf("%d bytes: %d, want %d", n, got, want)
		}
	}
}

// P1.4

func TestPutIsRead(t *testing.T) {
	for length := range 6 {
		b := someBytes(int64(length), length)
		for n := range 65536 {
			if got, ok := wire.U16(wire.Put16(b, n), length); got != n || !ok {
				t.Fatalf("%d behind %d bytes: %d %v", n, length, got, ok)
			}
		}
		for _, n := range []uint32{0, 1, 255, 256, 65535, 65536, 0x01020304, 0x7fffffff, 0x80000000, 0xfffffffe, math.MaxUint32} {
			if got, ok := wire.U32(wire.Put32(b, n), length); got != n || !ok {
				t.Errorf("%d behind %d bytes: %d %v", n, length, got, ok)
			}
		}
		if p, ok := wire.Part(wire.Put32(wire.Put16(b, 1), 2), 0, length); !ok || !bytes.Equal(p, b) {
			t.Errorf("the %d bytes ahead: %v %v", length, p, ok)
		}
	}
}

func TestPutOutsideBitsIsReadLow(t *testing.T) {
	for _, n := range []int{-1, -2, -65536, -65537, 65536, 65537, 1<<40 + 9, math.MaxInt, math.MinInt, math.MinInt + 3} {
		want := int(uint16(n))
		if got, ok := wire.U16(wire.Put16([]byte{1}, n), 1); got != want || !ok {
			t.Errorf("%d: %d %v, want %d", n, got, ok, want)
		}
	}
}

// P1.5

func TestSumOfSums(t *testing.T) {
	for seed := range int64(40) {
		first := someBytes(seed, 2*int(seed%11))
		second := someBytes(seed+100, int(seed%13))
		words := wire.Put16(wire.Put16(nil, wire.Sum(first)), wire.Sum(second))
		if got, want := wire.Sum(first, second), wire.Sum(words); got != want {
			t.Errorf("seed %d: %d, of the sums as words %d", seed, got, want)
		}
	}
}

func TestOrderOfWordsTurnsNothing(t *testing.T) {
	for seed := range int64(30) {
		words := cut(someBytes(seed, 2*int(seed)), 2)
		want := wire.Sum(words...)
		slices.Reverse(words)
		if got := wire.Sum(words...); got != want {
			t.Errorf("seed %d, the other way round: %d, want %d", seed, got, want)
		}
		r := rand.New(rand.NewSource(seed))
		r.Shuffle(len(words), func(i, j int) { words[i], words[j] = words[j], words[i] })
		if got := wire.Sum(bytes.Join(words, nil)); got != want {
			t.Errorf("seed %d, mixed: %d, want %d", seed, got, want)
		}
	}
	if a, b := wire.Sum([]byte{1, 2}), wire.Sum([]byte{2, 1}); a == b {
		t.Error("the order of bytes in a word does turn the sum:", a, b)
	}
}

// P1.6

func TestCheckBehind(t *testing.T) {
	inputs := [][]byte{nil, {0, 0}, {0, 0, 0, 0}, {0xff, 0xff}, {0xff, 0xff, 0xff, 0xff}, {0xff, 0xfe, 0, 1}, {0xff, 0xff, 0, 1}}
	for seed := range int64(40) {
		inputs = append(inputs, someBytes(seed, 2*int(seed)))
	}
	for _, b := range inputs {
		if got := wire.Sum(wire.Put16(b, wire.Check(b))); got != 65535 {
			t.Errorf("%v and its check: %d", b, got)
		}
		parts := append(cut(b, 1, 3), wire.Put16(nil, wire.Check(cut(b, 3, 0, 1)...)))
		if got := wire.Sum(parts...); got != 65535 {
			t.Errorf("%v in parts and its check: %d", b, got)
		}
		if got := wire.Check(wire.Put16(b, wire.Check(b))); got != 0 {
			t.Errorf("the check of %v and its check: %d", b, got)
		}
	}
}

// R4

func TestNothingIsWrittenInto(t *testing.T) {
	whole := someBytes(1, 32)
	kept := bytes.Clone(whole)
	b := whole[:9] // room behind it, which is not this call's
	wire.U16(b, 3)
	wire.U32(b, 3)
	wire.Part(b, 2, 5)
	wire.Put16(b, 0x0102)
	wire.Put32(b, 0x01020304)
	wire.Put16(b[:0], 0x0102)
	wire.Put32(b[:0], 0x01020304)
	parts := [][]byte{b[:3], b[3:4], nil, b[4:]}
	wire.Sum(parts...)
	wire.Check(parts...)
	if !bytes.Equal(whole, kept) {
		t.Errorf("%v, was %v", whole, kept)
	}
	want := [][]byte{kept[:3], kept[3:4], nil, kept[4:9]}
	if !slices.EqualFunc(parts, want, bytes.Equal) {
		t.Errorf("the parts: %v, were %v", parts, want)
	}
}

// fill writes into every byte of b, and into the room behind it.
func fill(b []byte, x byte) {
	b = b[:cap(b)]
	for i := range b {
		b[i] = x
	}
}

func TestAnswersAreTheCallers(t *testing.T) {
	whole := someBytes(2, 32)
	kept := bytes.Clone(whole)
	b := whole[:9]
	calls := map[string]func() []byte{
		"Part":           func() []byte { p, _ := wire.Part(b, 2, 5); return p },
		"Part, all":      func() []byte { p, _ := wire.Part(b, 0, 9); return p },
		"Part, none":     func() []byte { p, _ := wire.Part(b, 4, 0); return p },
		"Put16":          func() []byte { return wire.Put16(b, 7) },
		"Put32":          func() []byte { return wire.Put32(b, 7) },
		"Put16, nothing": func() []byte { return wire.Put16(b[:0], 7) },
		"Put32, nothing": func() []byte { return wire.Put32(b[:0], 7) },
	}
	for name, call := range calls {
		first, second := call(), call()
		want := bytes.Clone(second)
		fill(first, 0xaa)
		if !bytes.Equal(whole, kept) {
			t.Errorf("%s: the argument is %v, was %v", name, whole, kept)
		}
		if !bytes.Equal(second, want) {
			t.Errorf("%s: another answer is %v, was %v", name, second, want)
		}
		if third := call(); !bytes.Equal(third, want) {
			t.Errorf("%s: a later answer is %v, want %v", name, third, want)
		}
	}
}

func TestArgumentsAreNotKept(t *testing.T) {
	b := someBytes(3, 9)
	part, _ := wire.Part(b, 0, 9)
	word, long := wire.Put16(b, 1), wire.Put32(b, 1)
	want := bytes.Clone(b)
	fill(b, 0)
	if !bytes.Equal(part, want) || !bytes.Equal(word[:9], want) || !bytes.Equal(long[:9], want) {
		t.Error("an answer turned with its argument:", part, word, long)
	}
	if got := wire.Sum(b); got != 0 {
		t.Error("a sum of bytes that were there earlier:", got)
	}
}
