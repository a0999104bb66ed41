package ftp_test

import (
	"bytes"
	"math"
	"slices"
	"strings"
	"testing"

	"stockade/api"
	"stockade/ftp"
)

const end = "\r\n"

func a4(a, b, c, d int) api.Addr {
	return api.Addr{Fam: 4, Lo: uint64(a)<<24 | uint64(b)<<16 | uint64(c)<<8 | uint64(d)}
}

func a6(hi, lo uint64) api.Addr { return api.Addr{Fam: 6, Hi: hi, Lo: lo} }

func at(a api.Addr, port int) api.Ask { return api.Ask{Proto: api.TCP, Addr: a, Port: port} }

// wrongFams and wrongSides are none that there are.
func wrongFams() []int {
	return []int{math.MinInt, -6, -4, -1, 0, 1, 2, 3, 5, 7, 8, 10, 1<<32 + 4, 1<<32 + 6, math.MaxInt}
}

func wrongSides() []int {
	return []int{math.MinInt, -2, -1, 2, 3, 4, 6, 256, 1 << 32, 1<<32 + 1, math.MaxInt}
}

func wantLines(t testing.TB, data string, want ...string) {
	t.Helper()
	if got := ftp.Lines([]byte(data)); !slices.Equal(got, want) {
		t.Errorf("Lines(%q): %q, want %q", data, got, want)
	}
}

func wantAsks(t testing.TB, fam, side int, data string, want ...api.Ask) {
	t.Helper()
	if got := ftp.Asks(fam, side, []byte(data)); !slices.Equal(got, want) {
		t.Errorf("Asks(%d, %d, %q): %+v, want %+v", fam, side, data, got, want)
	}
}

// P18.1: lines, empty ones, and what is behind the last end.
func TestLines(t *testing.T) {
	wantLines(t, "USER a\r\nPASS b\r\nQUIT\r\n", "USER a", "PASS b", "QUIT")
	wantLines(t, "USER a\r\nPASS b", "USER a")
	wantLines(t, "\r\nUSER a\r\n\r\n\r\nQUIT\r\nx", "", "USER a", "", "", "QUIT")
	wantLines(t, "\r\n", "")
	wantLines(t, "\r\n\r\n", "", "")
	wantLines(t, "\r\n\r\n\r\nx\r\n", "", "", "", "x")
	wantLines(t, "a\r\n\x00\r\n \r\n", "a", "\x00", " ")
	if got := ftp.Lines(nil); len(got) != 0 {
		t.Errorf("Lines(nil): %q", got)
	}
}

// P18.1: data without an end have no line.
func TestLinesNone(t *testing.T) {
	for _, data := range []string{"", "x", "PORT 10,0,0,1,7,208", "\r", "\n", "\n\r", "\r\r", "\n\n", "\r \n", "a\rb\nc", "\n\r\r", "\n\n\r", "\r\x00\n", "\\r\\n", "\x0d\x8a", "\x8d\x0a", "\u010d\u010a", "\u2028", "\u0085"} {
		wantLines(t, data)
	}
}

// P18.1: a byte 13 without a byte 10 behind it, and the other way round, are of the line.
func TestLinesHalfEnds(t *testing.T) {
	wantLines(t, "a\rb\r\n", "a\rb")
	wantLines(t, "a\nb\r\n", "a\nb")
	wantLines(t, "\r\r\n", "\r")
	wantLines(t, "\r\r\r\n\n", "\r\r")
	wantLines(t, "\n\r\n", "\n")
	wantLines(t, "\r\n\n\r\n", "", "\n")
	wantLines(t, "\r\n\r\r\n", "", "\r")
	wantLines(t, "\r\n\n", "")
	wantLines(t, "\r\n\r", "")
	wantLines(t, "\n\r\n\r\n\r", "\n", "")
	wantLines(t, "a\n\rb\r\nc\n\r", "a\n\rb")
}

// P18.1: bytes that are no UTF-8, also ones that begin a rune just ahead of an end.
func TestLinesOfAnyBytes(t *testing.T) {
	for b := range 256 {
		for _, head := range []string{"", "x", "\xe2", "\xe2\x82", "\xf0\x9f\x98", "\u20ac"} {
			line := head + string([]byte{byte(b)})
			wantLines(t, line+end+line+end+line, line, line)
			wantLines(t, end+line+line+end, "", line+line)
		}
	}
	wantLines(t, "\xff\xfe\r\n\x80\r\n\u00e9\u20ac\U0001f600\r\n", "\xff\xfe", "\x80", "\u00e9\u20ac\U0001f600")
	wantLines(t, "\xf0\r\n\xf0\x9f\r\n\xf0\x9f\x98\r\n\xf0\x9f\x98", "\xf0", "\xf0\x9f", "\xf0\x9f\x98")
}

// P18.1: lines of any length, and any number of them.
func TestLinesMany(t *testing.T) {
	for _, n := range []int{1, 7, 8, 9, 10, 100, 5000} {
		for _, size := range []int{0, 1, 511, 512, 513, 1000} {
			want := slices.Repeat([]string{strings.Repeat("x", size)}, n)
			wantLines(t, strings.Join(want, end)+end, want...)
			wantLines(t, strings.Join(want, end), want[:n-1]...)
		}
	}
	long := strings.Repeat("\r", 1<<20)
	wantLines(t, long+end, long)
}

// P18.3: the places in order, beside lines that say nothing, and what is behind the last end.
func TestAsks(t *testing.T) {
	wantAsks(t, 4, 0, "USER a\r\nPORT 10,0,0,1,7,208\r\nRETR b\r\nEPRT |1|10.0.0.2|2001|\r\n", at(a4(10, 0, 0, 1), 2000), at(a4(10, 0, 0, 2), 2001))
	wantAsks(t, 4, 1, "220 hi\r\n229 ok (|||2000|)\r\n227 ok (10,0,0,2,7,209)\r\n", at(api.Addr{}, 2000), at(a4(10, 0, 0, 2), 2001))
	wantAsks(t, 6, 0, "PORT 10,0,0,1,7,208\r\nEPRT |2|::1|2000|\r\n", at(a6(0, 1), 2000))
	wantAsks(t, 6, 1, "227 ok (10,0,0,1,7,208)\r\n229 ok (|||2000|)\r\n", at(api.Addr{}, 2000))
	wantAsks(t, 4, 0, "PORT 10,0,0,1,7,208\r\nPORT 10,0,0,1,7,208\r\n", at(a4(10, 0, 0, 1), 2000), at(a4(10, 0, 0, 1), 2000))
	wantAsks(t, 4, 0, "PORT 10,0,0,1,7,208\r\nPORT 10,0,0,1,7,209", at(a4(10, 0, 0, 1), 2000))
	for _, data := range []string{"", end, "PORT 10,0,0,1,7,208", "PORT 10,0,0,1,7,208\r", "PORT 10,0,0,1,7,208\n", "PORT 10,0,0,1,7,208\n\r", "PORT 10,0,0,1,7,208\r\r\n", "\nPORT 10,0,0,1,7,208\r\n", "PORT 10,0,0,1\r\n,7,208\r\n", "PORT 10,0,0,1,7,208\x00\r\n"} {
		wantAsks(t, 4, 0, data)
	}
	if got := ftp.Asks(4, 0, nil); len(got) != 0 {
		t.Errorf("Asks of nil: %+v", got)
	}
}

// saying is a line of each kind, and who says it.
var saying = []struct {
	fam, side int
	line      string
	want      api.Ask
}{
	{4, 0, "PORT 10,0,0,1,7,208", at(a4(10, 0, 0, 1), 2000)},
	{4, 0, "EPRT |1|10.0.0.1|2000|", at(a4(10, 0, 0, 1), 2000)},
	{6, 0, "EPRT |2|2001:db8::1|2000|", at(a6(0x20010db8<<32, 1), 2000)},
	{4, 1, "227 ok (10,0,0,1,7,208)", at(a4(10, 0, 0, 1), 2000)},
	{4, 1, "229 ok (|||2000|)", at(api.Addr{}, 2000)},
	{6, 1, "229 ok (|||2000|)", at(api.Addr{}, 2000)},
}

// P18.3: a place in the eighth line is told of, one in the ninth not, whatever the lines ahead are.
func TestAsksEightLines(t *testing.T) {
	for _, c := range saying {
		for _, ahead := range []string{"", "x", "\xff", "\r", strings.Repeat("x", 513), strings.Repeat("x", 20000)} {
			for n := range 20 {
				data := strings.Repeat(ahead+end, n) + c.line + end + c.line + end
				wantAsks(t, c.fam, c.side, data, slices.Repeat([]api.Ask{c.want}, min(max(8-n, 0), 2))...)
			}
		}
		for _, n := range []int{1, 7, 8, 9, 10, 16, 1000} {
			wantAsks(t, c.fam, c.side, strings.Repeat(c.line+end, n), slices.Repeat([]api.Ask{c.want}, min(n, 8))...)
			wantAsks(t, c.fam, c.side, strings.Repeat(c.line+end, n-1)+c.line, slices.Repeat([]api.Ask{c.want}, min(n-1, 8))...)
		}
	}
}

// P18.3: a family or a side that there is not, and the other side, say nothing.
func TestAsksWrong(t *testing.T) {
	for _, c := range saying {
		data := c.line + end
		wantAsks(t, c.fam, c.side, data, c.want)
		wantAsks(t, c.fam, 1-c.side, data)
		for _, fam := range wrongFams() {
			wantAsks(t, fam, c.side, data)
		}
		for _, side := range wrongSides() {
			wantAsks(t, c.fam, side, data)
		}
	}
}

// P18.3: what Asks tells is what Place tells of the first eight lines.
func TestAsksAsPlace(t *testing.T) {
	var data string
	for _, c := range saying {
		data += c.line + end + "x" + end
	}
	for _, fam := range []int{4, 6, 5} {
		for _, side := range []int{0, 1, 2} {
			for ; strings.Contains(data, end); data = data[strings.Index(data, end)+2:] {
				lines := ftp.Lines([]byte(data))
				var want []api.Ask
				for _, line := range lines[:min(len(lines), 8)] {
					if a, ok := ftp.Place(fam, side, line); ok {
						want = append(want, a)
					}
				}
				wantAsks(t, fam, side, data, want...)
			}
		}
	}
}

// cuts are the places behind each end of data, and the first place of all.
func cuts(data string) []int {
	list := []int{0}
	for i := 2; i <= len(data); i++ {
		if data[i-2:i] == end {
			list = append(list, i)
		}
	}
	return list
}

// wantAlikeCut holds data against what is ahead and behind of each of its ends.
func wantAlikeCut(t testing.TB, fam, side int, data string) {
	t.Helper()
	lines := ftp.Lines([]byte(data))
	asks := ftp.Asks(fam, side, []byte(data))
	for _, i := range cuts(data) {
		ahead, behind := []byte(data[:i]), []byte(data[i:])
		if got := slices.Concat(ftp.Lines(ahead), ftp.Lines(behind)); !slices.Equal(got, lines) {
			t.Errorf("%q, cut at %d, has the lines %q, whole %q", data, i, got, lines)
		}
		if len(lines) > 8 {
			continue
		}
		if got := slices.Concat(ftp.Asks(fam, side, ahead), ftp.Asks(fam, side, behind)); !slices.Equal(got, asks) {
			t.Errorf("%q of %d, cut at %d, says %+v, whole %+v", data, side, i, got, asks)
		}
	}
}

// P18.4: data cut at an end say, one behind the other, what they say whole.
func TestCutAtAnEnd(t *testing.T) {
	for _, between := range []string{"", "x\r\n", "\r\n", "\r\r\n", "\n\r\n", "\xe2\r\n", strings.Repeat("x", 600) + end} {
		for _, tail := range []string{"", "\r", "PORT 10,0,0,1,7,208", "227 (10,0,0,1,7,208"} {
			for _, fam := range []int{4, 6} {
				for side := range 2 {
					var data string
					for _, c := range saying {
						data += c.line + end + between
						wantAlikeCut(t, fam, side, data+tail)
					}
				}
			}
		}
	}
}

// P18.4: of more than eight lines the pieces may say more than the whole.
func TestCutOfManyLines(t *testing.T) {
	line := "PORT 10,0,0,1,7,208\r\n"
	whole := ftp.Asks(4, 0, []byte(strings.Repeat(line, 9)))
	pieces := len(ftp.Asks(4, 0, []byte(strings.Repeat(line, 5)))) + len(ftp.Asks(4, 0, []byte(strings.Repeat(line, 4))))
	if len(whole) != 8 || pieces != 9 {
		t.Errorf("nine lines say %d places, cut %d", len(whole), pieces)
	}
}

// R4: data are not written into, and what is answered does not change with them.
func TestDataStay(t *testing.T) {
	data := []byte("PORT 10,0,0,1,7,208\r\nport 10,0,0,1,7,209\r\neprt |1|10.0.0.2|2001|\r\nx")
	kept := bytes.Clone(data)
	lines, asks := ftp.Lines(data), ftp.Asks(4, 0, data)
	if !bytes.Equal(data, kept) {
		t.Errorf("the data were turned: %q", data)
	}
	for i := range data {
		data[i] = 'x'
	}
	if want := []string{"PORT 10,0,0,1,7,208", "port 10,0,0,1,7,209", "eprt |1|10.0.0.2|2001|"}; !slices.Equal(lines, want) {
		t.Errorf("the lines were turned: %q", lines)
	}
	if want := []api.Ask{at(a4(10, 0, 0, 1), 2000), at(a4(10, 0, 0, 1), 2001), at(a4(10, 0, 0, 2), 2001)}; !slices.Equal(asks, want) {
		t.Errorf("the places were turned: %+v", asks)
	}
}

// R3, R4: what is answered is the caller's, with the room behind its end, and the same call has the same answer.
func TestAnswersAreTheCallers(t *testing.T) {
	data := []byte("PORT 10,0,0,1,7,208\r\nx\r\nEPRT |1|10.0.0.2|2001|\r\n")
	for range 3 {
		lines, asks := ftp.Lines(data), ftp.Asks(4, 0, data)
		if !slices.Equal(lines, []string{"PORT 10,0,0,1,7,208", "x", "EPRT |1|10.0.0.2|2001|"}) || !slices.Equal(asks, []api.Ask{at(a4(10, 0, 0, 1), 2000), at(a4(10, 0, 0, 2), 2001)}) {
			t.Fatalf("%q, %+v", lines, asks)
		}
		lines, asks = lines[:cap(lines)], asks[:cap(asks)]
		for i := range lines {
			lines[i] = "PORT 1,1,1,1,1,1"
		}
		for i := range asks {
			asks[i] = at(a4(1, 1, 1, 1), 257)
		}
	}
}
