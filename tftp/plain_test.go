package tftp_test

import (
	"bytes"
	"math/rand"
	"regexp"
	"slices"
	"strings"
	"testing"

	"stockade/api"
	"stockade/tftp"
)

// plainLatin makes each byte a rune of its own, so that a pattern can speak of bytes.
func plainLatin(data []byte) string {
	var b strings.Builder
	for _, x := range data {
		b.WriteRune(rune(x))
	}
	return b.String()
}

func plainBytes(text string) string {
	var b []byte
	for _, r := range text {
		b = append(b, byte(r))
	}
	return string(b)
}

var (
	plainWhole  = regexp.MustCompile(`\A\x00([\x01\x02])([\x20-\x7e]{1,128})\x00([A-Za-z]+)\x00((?s:[^\x00]{1,128}\x00[^\x00]{1,128}\x00)*)\z`)
	plainOption = regexp.MustCompile(`([^\x00]+)\x00([^\x00]+)\x00`)
)

// plainParse reads the chapter's words on what a request is.
func plainParse(data []byte) (tftp.Request, bool) {
	m := plainWhole.FindStringSubmatch(plainLatin(data))
	if m == nil || !slices.Contains([]string{"octet", "netascii", "mail"}, strings.ToLower(m[3])) {
		return tftp.Request{}, false
	}
	r := tftp.Request{Write: m[1] == "\x02", Name: m[2], Mode: strings.ToLower(m[3])}
	for _, o := range plainOption.FindAllStringSubmatch(m[4], -1) {
		r.Options = append(r.Options, tftp.Option{Name: plainBytes(o[1]), Value: plainBytes(o[2])})
	}
	return r, true
}

// plainBuild writes a request and asks whether it is read as the same one.
func plainBuild(r tftp.Request) ([]byte, bool) {
	b := []byte{0, 1}
	if r.Write {
		b = []byte{0, 2}
	}
	list := []string{r.Name, r.Mode}
	for _, o := range r.Options {
		list = append(list, o.Name, o.Value)
	}
	for _, s := range list {
		b = append(append(b, s...), 0)
	}
	back, ok := plainParse(b)
	if !ok || !same(back, r) {
		return nil, false
	}
	return b, true
}

type chance struct{ *rand.Rand }

func (c chance) of(list ...string) string { return list[c.Intn(len(list))] }

// size is mostly a small number, else one near the edge.
func (c chance) size() int {
	if c.Intn(8) == 0 {
		return []int{0, 1, 127, 128, 129}[c.Intn(5)]
	}
	return 1 + c.Intn(12)
}

func (c chance) name() string {
	b := make([]byte, c.size())
	for i := range b {
		b[i] = byte(32 + c.Intn(95))
		if c.Intn(200) == 0 {
			b[i] = []byte{0, 31, 32, 126, 127, 128, 255}[c.Intn(7)]
		}
	}
	return string(b)
}

func (c chance) word() string {
	b := make([]byte, c.size())
	for i := range b {
		b[i] = byte(1 + c.Intn(255))
		if c.Intn(200) == 0 {
			b[i] = 0
		}
	}
	return string(b)
}

func (c chance) mode() string {
	mode := c.of("octet", "netascii", "mail")
	switch c.Intn(8) {
	case 0:
		return c.of(wrongModes()...)
	case 1, 2:
		all := sizes(mode)
		return all[c.Intn(len(all))]
	}
	return mode
}

func (c chance) request() tftp.Request {
	r := tftp.Request{Write: c.Intn(2) == 0, Name: c.name(), Mode: c.mode()}
	for range max(0, c.Intn(7)-3) {
		r.Options = append(r.Options, tftp.Option{Name: c.word(), Value: c.word()})
	}
	return r
}

// turned is data with a byte put in, taken out, or in the place of another one.
func (c chance) turned(data []byte) []byte {
	i := c.Intn(len(data) + 1)
	x := byte(c.Intn(256))
	if c.Intn(2) == 0 {
		x = []byte{0, 0, 0, 1, 2, 31, 32, 126, 127, 128, 'o'}[c.Intn(11)]
	}
	switch c.Intn(3) {
	case 0:
		return slices.Concat(data[:i], []byte{x}, data[i:])
	case 1:
		return slices.Concat(data[:i], []byte{x}, data[min(i+1, len(data)):])
	}
	return slices.Concat(data[:i], data[min(i+1, len(data)):])
}

// flat is what a request's texts are one behind the other, whatever they are.
func flat(r tftp.Request) []byte {
	b := []byte{0, 1}
	for _, s := range []string{r.Name, r.Mode} {
		b = append(append(b, s...), 0)
	}
	for _, o := range r.Options {
		b = append(append(append(append(b, o.Name...), 0), o.Value...), 0)
	}
	return b
}

// wantAsPlain holds what data are read as against the plain reading, and tells whether they are a request.
func wantAsPlain(t testing.TB, data []byte, port int) bool {
	t.Helper()
	got, ok := tftp.Parse(data)
	want, is := plainParse(data)
	if ok != is || !same(got, want) {
		t.Fatalf("Parse(%q): %+v, %v, want %+v, %v", data, got, ok, want, is)
	}
	var places []api.Ask
	if is && port >= 1 && port <= 65535 {
		places = []api.Ask{{Proto: api.UDP, Port: port}}
	}
	if asks := tftp.Asks(port, data); !slices.Equal(asks, places) {
		t.Fatalf("Asks(%d, %q): %+v, want %+v", port, data, asks, places)
	}
	return is
}

// P19.1, P19.3, P19.4: data by chance, whole and turned, against the plain reading, and what was read is built as the bytes.
func TestParseAsPlain(t *testing.T) {
	c := chance{rand.New(rand.NewSource(19))}
	met := map[bool]int{}
	large := 0
	for range 60000 {
		data := flat(c.request())
		for range c.Intn(3) {
			data = c.turned(data)
		}
		is := wantAsPlain(t, data, c.Intn(140000)-1000)
		met[is]++
		if !is {
			continue
		}
		r, _ := tftp.Parse(data)
		b, ok := tftp.Build(r)
		if !ok || !bytes.Equal(b, smallMode(data)) {
			t.Fatalf("%q is built as %q, %v", data, b, ok)
		}
		if !bytes.Equal(b, data) {
			large++
		}
	}
	if met[true] < 10000 || met[false] < 10000 || large < 1000 {
		t.Errorf("requests, others, ones with large letters: %v, %d", met, large)
	}
}

// smallMode is data with the mode, which ends at the second byte 0 behind the first two bytes, in small letters.
func smallMode(data []byte) []byte {
	name := 2 + bytes.IndexByte(data[2:], 0)
	mode := name + 1 + bytes.IndexByte(data[name+1:], 0)
	return slices.Concat(data[:name], bytes.ToLower(data[name:mode]), data[mode:])
}

// P19.2, P19.4: requests by chance against the plain reading, and what is built is read as the request.
func TestBuildAsPlain(t *testing.T) {
	c := chance{rand.New(rand.NewSource(91))}
	met := map[bool]int{}
	for range 60000 {
		r := c.request()
		got, ok := tftp.Build(r)
		want, is := plainBuild(r)
		if ok != is || !bytes.Equal(got, want) {
			t.Fatalf("Build(%+v): %q, %v, want %q, %v", r, got, ok, want, is)
		}
		met[is]++
		if !is {
			continue
		}
		if back, ok := tftp.Parse(got); !ok || !same(back, r) {
			t.Fatalf("%+v is read as %+v, %v", r, back, ok)
		}
	}
	if met[true] < 10000 || met[false] < 10000 {
		t.Errorf("requests, others: %v", met)
	}
}

// P19.5: beginnings of requests by chance.
func TestBeginningsAsPlain(t *testing.T) {
	c := chance{rand.New(rand.NewSource(5))}
	met := 0
	for range 2000 {
		r := c.request()
		data, ok := tftp.Build(r)
		if !ok {
			continue
		}
		met++
		for i := range data {
			is := wantAsPlain(t, data[:i], 2000)
			if is && i < 2+len(r.Name)+1+len(r.Mode)+1 {
				t.Fatalf("%q, the beginning of %q, is a request", data[:i], data)
			}
		}
	}
	if met < 500 {
		t.Errorf("requests: %d", met)
	}
}

// P19.1: each one-byte change of requests against the plain reading.
func TestEachByteTurned(t *testing.T) {
	for _, c := range plainCases {
		for i := range c.data {
			for b := range 256 {
				data := []byte(c.data)
				data[i] = byte(b)
				wantAsPlain(t, data, 2000)
			}
		}
	}
}
