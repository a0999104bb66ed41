package ftp_test

import (
	"bytes"
	"math/rand"
	"regexp"
	"slices"
	"strconv"
	"strings"
	"testing"

	"stockade/addr"
	"stockade/api"
	"stockade/ftp"
)

// plainLines reads the chapter's words on lines byte by byte.
func plainLines(data []byte) []string {
	var lines []string
	for {
		i := bytes.Index(data, []byte{13, 10})
		if i < 0 {
			return lines
		}
		lines = append(lines, string(data[:i]))
		data = data[i+2:]
	}
}

var (
	plainSix    = regexp.MustCompile(`\A(0|[1-9][0-9]*),(0|[1-9][0-9]*),(0|[1-9][0-9]*),(0|[1-9][0-9]*),(0|[1-9][0-9]*),(0|[1-9][0-9]*)\z`)
	plainPort   = regexp.MustCompile(`\A[Pp][Oo][Rr][Tt] ((?s:.*))\z`)
	plainEprt   = regexp.MustCompile(`\A[Ee][Pp][Rr][Tt] (.)([12])(.)([0-9A-Fa-f.:]+?)(.)([1-9][0-9]*)(.)\z`)
	plainAnswer = regexp.MustCompile(`\A(227|229) ([^(]*)\(([^)]*)\)`)
	plainAlone  = regexp.MustCompile(`\A(.)(.)(.)([1-9][0-9]*)(.)\z`)
	plainD      = regexp.MustCompile(`\A[!-/:-~]\z`)
)

func plainSixSay(text string) (api.Ask, bool) {
	m := plainSix.FindStringSubmatch(text)
	if m == nil {
		return api.Ask{}, false
	}
	var n [6]int
	for i := range n {
		x, err := strconv.Atoi(m[i+1])
		if err != nil || x > 255 {
			return api.Ask{}, false
		}
		n[i] = x
	}
	port := 256*n[4] + n[5]
	if port == 0 {
		return api.Ask{}, false
	}
	return at(a4(n[0], n[1], n[2], n[3]), port), true
}

// plainSame tells whether all are one and the same byte d.
func plainSame(d ...string) bool {
	return plainD.MatchString(d[0]) && !slices.ContainsFunc(d, func(x string) bool { return x != d[0] })
}

func plainTo(a api.Addr, text string) (api.Ask, bool) {
	n, err := strconv.Atoi(text)
	if err != nil || n > 65535 {
		return api.Ask{}, false
	}
	return at(a, n), true
}

// plainEprtSay reads an EPRT. What is matched as an address may have a d in it, so all of them are counted.
func plainEprtSay(fam int, line string) (api.Ask, bool) {
	if len(line) < 6 || !plainD.MatchString(line[5:6]) || strings.Count(line[5:], line[5:6]) != 4 {
		return api.Ask{}, false
	}
	// With a letter as d the match could end the address at another place than d's, so all ds are made one that is in no address.
	line = line[:5] + strings.ReplaceAll(line[5:], line[5:6], "|")
	m := plainEprt.FindStringSubmatch(line)
	if m == nil || !plainSame(m[1], m[3], m[5], m[7]) || m[2] != map[int]string{4: "1", 6: "2"}[fam] {
		return api.Ask{}, false
	}
	a, e := addr.Parse(m[4])
	if e != api.OK || a.Fam != fam {
		return api.Ask{}, false
	}
	return plainTo(a, m[6])
}

func plainAloneSay(text string) (api.Ask, bool) {
	m := plainAlone.FindStringSubmatch(text)
	if m == nil || !plainSame(m[1], m[2], m[3], m[5]) {
		return api.Ask{}, false
	}
	return plainTo(api.Addr{}, m[4])
}

// plainPlace reads the chapter's words on what a line says.
func plainPlace(fam, side int, line string) (api.Ask, bool) {
	if fam != 4 && fam != 6 || side != 0 && side != 1 || len(line) > 512 {
		return api.Ask{}, false
	}
	if side == 0 {
		if m := plainPort.FindStringSubmatch(line); m != nil && fam == 4 {
			return plainSixSay(m[1])
		}
		return plainEprtSay(fam, line)
	}
	m := plainAnswer.FindStringSubmatch(line)
	switch {
	case m == nil:
		return api.Ask{}, false
	case m[1] == "227" && fam == 4:
		return plainSixSay(m[3])
	case m[1] == "229":
		return plainAloneSay(m[3])
	}
	return api.Ask{}, false
}

func plainAsks(fam, side int, data []byte) []api.Ask {
	var asks []api.Ask
	for i, line := range plainLines(data) {
		if a, ok := plainPlace(fam, side, line); ok && i < 8 {
			asks = append(asks, a)
		}
	}
	return asks
}

type chance struct{ *rand.Rand }

func (c chance) of(list ...string) string { return list[c.Intn(len(list))] }

// number is one near the edges of bytes and ports, as a text.
func (c chance) number() string {
	return c.of("0", "1", "2", "7", "10", "208", "255", "256", "2000", "65535", "65536", "00", "01", "", strconv.Itoa(c.Intn(300)), strconv.Itoa(c.Intn(70000)))
}

func (c chance) byteNumber() string {
	if c.Intn(40) == 0 {
		return c.number()
	}
	return strconv.Itoa(c.Intn(256))
}

func (c chance) six() string {
	n := 6
	if c.Intn(20) == 0 {
		n = c.Intn(9)
	}
	words := make([]string, n)
	for i := range words {
		words[i] = c.byteNumber()
	}
	return strings.Join(words, ",")
}

func (c chance) port() string {
	if c.Intn(4) == 0 {
		return c.number()
	}
	return strconv.Itoa(1 + c.Intn(65535))
}

func (c chance) host() string {
	if c.Intn(2) == 0 {
		return addr.Text(a4(c.Intn(256), c.Intn(256), c.Intn(256), c.Intn(256)))
	}
	return addr.Text(a6(c.Uint64()>>c.Intn(64), c.Uint64()>>c.Intn(64)))
}

func (c chance) d() string {
	if c.Intn(3) == 0 {
		return string([]byte{byte(c.Intn(256))})
	}
	return c.of("|", "!", "~", ".", ":", "a", "A", "(", ")", ",", "0", "1", " ", "\x7f")
}

func (c chance) sized(word string) string {
	all := sizes(word)
	return all[c.Intn(len(all))]
}

// line is one that mostly says something.
func (c chance) line() string {
	d := c.d()
	switch c.Intn(5) {
	case 0:
		return c.sized("port") + " " + c.six()
	case 1:
		host := c.host()
		net := "2"
		if strings.Contains(host, ".") {
			net = "1"
		}
		if c.Intn(10) == 0 {
			net = c.of("", "1", "2", "3")
		}
		return c.sized("eprt") + " " + d + net + d + host + d + c.port() + d
	case 2:
		return "227 " + c.of("", "ok ", "(", ")", "\xe2") + "(" + c.six() + ")" + c.of("", ".", ")", "(")
	case 3:
		return "229 " + c.of("", "ok ", "(", ")", "\xff") + "(" + d + d + d + c.port() + d + ")" + c.of("", ".", ")", "(")
	}
	return c.of("", "USER a", "227 ok", "229 ", "PORT", "\r", "\n", strings.Repeat("x", 513))
}

// turned is a line with a byte put in, taken out, or in the place of another one.
func (c chance) turned(line string) string {
	i := c.Intn(len(line) + 1)
	x := c.of("0", "1", "9", ",", "|", "(", ")", " ", "x", "a", ".", ":", "\r", "\n", "\x80", "\u20ac", string([]byte{byte(c.Intn(256))}))
	switch c.Intn(3) {
	case 0:
		return line[:i] + x + line[i:]
	case 1:
		return line[:i] + x + line[min(i+1, len(line)):]
	}
	return line[:i] + line[min(i+1, len(line)):]
}

func wantAsPlain(t testing.TB, fam, side int, line string) bool {
	t.Helper()
	got, ok := ftp.Place(fam, side, line)
	want, is := plainPlace(fam, side, line)
	if got != want || ok != is {
		t.Fatalf("Place(%d, %d, %q): %+v, %v, want %+v, %v", fam, side, line, got, ok, want, is)
	}
	return ok
}

// P18.2, P18.6: lines by chance, whole and turned, against the plain reading; no line is said by both sides.
func TestPlaceAsPlain(t *testing.T) {
	c := chance{rand.New(rand.NewSource(18))}
	met := map[bool]int{}
	for range 100000 {
		line := c.line()
		for range c.Intn(3) {
			line = c.turned(line)
		}
		for _, fam := range []int{4, 6} {
			begins, answers := wantAsPlain(t, fam, 0, line), wantAsPlain(t, fam, 1, line)
			met[begins]++
			met[answers]++
			if begins && answers {
				t.Fatalf("both sides say %q", line)
			}
		}
		wantAsPlain(t, c.Intn(9), c.Intn(4)-1, line)
	}
	if met[true] < 20000 || met[false] < 20000 {
		t.Errorf("lines that say something, and that say nothing: %v", met)
	}
}

// P18.1, P18.3, P18.4: data by chance, against the plain reading, whole and cut at each end.
func TestAsksAsPlain(t *testing.T) {
	c := chance{rand.New(rand.NewSource(81))}
	met, most := 0, 0
	for range 20000 {
		var data string
		for range c.Intn(13) {
			data += c.line() + c.of(end, end, end, end, end, end, "\r", "\n", "\n\r", "\r\r\n", "\xe2\r\n", "\r\n\r\n")
		}
		if c.Intn(2) == 0 {
			data = c.turned(data)
		}
		fam, side := 4+2*c.Intn(2), c.Intn(2)
		wantLines(t, data, plainLines([]byte(data))...)
		asks := plainAsks(fam, side, []byte(data))
		wantAsks(t, fam, side, data, asks...)
		wantAlikeCut(t, fam, side, data)
		met, most = met+len(asks), max(most, len(asks))
	}
	if met < 8000 || most < 6 {
		t.Errorf("%d places, at most %d at once", met, most)
	}
}

// P18.2: every one-byte change of a line of each kind, against the plain reading.
func TestEveryByteAsPlain(t *testing.T) {
	for _, c := range saying {
		for i := range len(c.line) + 1 {
			for b := range 256 {
				x := string([]byte{byte(b)})
				for _, fam := range []int{4, 6} {
					wantAsPlain(t, fam, c.side, c.line[:i]+x+c.line[i:])
					wantAsPlain(t, fam, c.side, c.line[:i]+x+c.line[min(i+1, len(c.line)):])
					wantAsPlain(t, fam, c.side, c.line[:i]+c.line[min(i+1, len(c.line)):])
				}
			}
		}
	}
}
