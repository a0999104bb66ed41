package tftp_test

import (
	"bytes"
	"math"
	"slices"
	"strings"
	"testing"

	"stockade/api"
	"stockade/tftp"
)

func xs(n int) string { return strings.Repeat("x", n) }

func same(a, b tftp.Request) bool {
	return a.Write == b.Write && a.Name == b.Name && a.Mode == b.Mode && slices.Equal(a.Options, b.Options)
}

func wantRequest(t testing.TB, data string, want tftp.Request) {
	t.Helper()
	got, ok := tftp.Parse([]byte(data))
	if !ok || !same(got, want) {
		t.Errorf("Parse(%q): %+v, %v, want %+v", data, got, ok, want)
	}
	if asks := tftp.Asks(2000, []byte(data)); !slices.Equal(asks, []api.Ask{{Proto: api.UDP, Port: 2000}}) {
		t.Errorf("Asks(2000, %q): %+v", data, asks)
	}
}

// wantNone holds data that are no request: nothing is read, and no place asked for (P19.1, P19.3).
func wantNone(t testing.TB, data string) {
	t.Helper()
	if got, ok := tftp.Parse([]byte(data)); ok || !same(got, tftp.Request{}) {
		t.Errorf("Parse(%q): %+v, %v, want none", data, got, ok)
	}
	if asks := tftp.Asks(2000, []byte(data)); len(asks) != 0 {
		t.Errorf("Asks(2000, %q): %+v, want none", data, asks)
	}
}

func wantBytes(t testing.TB, r tftp.Request, want string) {
	t.Helper()
	if got, ok := tftp.Build(r); !ok || string(got) != want {
		t.Errorf("Build(%+v): %q, %v, want %q", r, got, ok, want)
	}
}

func wantNotBuilt(t testing.TB, r tftp.Request) {
	t.Helper()
	if got, ok := tftp.Build(r); ok || len(got) != 0 {
		t.Errorf("Build(%+v): %q, %v, want none", r, got, ok)
	}
}

// plainCases are requests in small letters and their bytes.
var plainCases = []struct {
	data string
	r    tftp.Request
}{
	{"\x00\x01a\x00octet\x00", tftp.Request{Name: "a", Mode: "octet"}},
	{"\x00\x02a\x00octet\x00", tftp.Request{Write: true, Name: "a", Mode: "octet"}},
	{"\x00\x01boot/Image 1~\x00netascii\x00", tftp.Request{Name: "boot/Image 1~", Mode: "netascii"}},
	{"\x00\x02root\x00mail\x00", tftp.Request{Write: true, Name: "root", Mode: "mail"}},
	{"\x00\x01a\x00octet\x00blksize\x001428\x00", tftp.Request{Name: "a", Mode: "octet", Options: []tftp.Option{{"blksize", "1428"}}}},
	{"\x00\x02a\x00octet\x00TSize\x00ABC\x00b\x00\xff\x00b\x00\xff\x00", tftp.Request{Write: true, Name: "a", Mode: "octet", Options: []tftp.Option{{"TSize", "ABC"}, {"b", "\xff"}, {"b", "\xff"}}}},
	{"\x00\x01octet\x00octet\x00octet\x00octet\x00", tftp.Request{Name: "octet", Mode: "octet", Options: []tftp.Option{{"octet", "octet"}}}},
}

// P19.1: what a request has, to read and to write, in each mode, with no option, one and several.
func TestParse(t *testing.T) {
	for _, c := range plainCases {
		wantRequest(t, c.data, c.r)
	}
}

// P19.2: the bytes of the same requests.
func TestBuild(t *testing.T) {
	for _, c := range plainCases {
		wantBytes(t, c.r, c.data)
	}
}

// sizes are a word in each mixture of small and large letters.
func sizes(word string) []string {
	list := []string{""}
	for _, r := range word {
		var next []string
		for _, s := range list {
			next = append(next, s+string(r), s+strings.ToUpper(string(r)))
		}
		list = next
	}
	return list
}

// P19.1: a mode's letters may be of both sizes, and are small in the answer; names and options stay as they stand.
func TestModes(t *testing.T) {
	for _, mode := range []string{"octet", "netascii", "mail"} {
		for _, as := range sizes(mode) {
			wantRequest(t, "\x00\x01OCTET\x00"+as+"\x00", tftp.Request{Name: "OCTET", Mode: mode})
			wantRequest(t, "\x00\x02"+as+"\x00"+as+"\x00"+as+"\x00"+as+"\x00", tftp.Request{Write: true, Name: as, Mode: mode, Options: []tftp.Option{{as, as}}})
		}
	}
}

// wrongModes are no modes, in whatever letters.
func wrongModes() []string {
	return []string{"", "o", "octe", "octets", " octet", "octet ", "0ctet", "octe\xf4", "netasci", "netasciii", "ascii", "binary", "mai", "mails", "mail\n", "net ascii", "octetmail", "octet\xff", "neta\u017fcii", "ma\u0131l", "ma\u0130l", "\uff4fctet", "\xefctet", "ocTe\x14", "\x4f\x23\x54\x45\x54", "octeT\x80", "/ctet", "oc[et", xs(5), xs(128), xs(129)}
}

// P19.1: a mode that is no mode.
func TestModesWrong(t *testing.T) {
	for _, mode := range wrongModes() {
		wantNone(t, "\x00\x01a\x00"+mode+"\x00")
		wantNone(t, "\x00\x02a\x00"+mode+"\x00b\x00c\x00")
	}
	for _, mode := range []string{"octet", "netascii", "mail"} {
		for i := range mode {
			for b := range 256 {
				as := mode[:i] + string([]byte{byte(b)}) + mode[i+1:]
				if !strings.EqualFold(mode, as) || b > 127 {
					wantNone(t, "\x00\x01a\x00"+as+"\x00")
				}
			}
			wantNone(t, "\x00\x01a\x00"+mode[:i]+"\x00")
			wantNone(t, "\x00\x01a\x00"+mode[i+1:]+"\x00")
		}
	}
}

// P19.1: no bytes, one and two.
func TestParseShort(t *testing.T) {
	wantNone(t, "")
	for a := range 256 {
		wantNone(t, string([]byte{byte(a)}))
		for b := range 256 {
			wantNone(t, string([]byte{byte(a), byte(b)}))
		}
	}
	if got, ok := tftp.Parse(nil); ok || !same(got, tftp.Request{}) {
		t.Errorf("Parse(nil): %+v, %v", got, ok)
	}
}

// P19.1: the first bytes are 0 and 1, or 0 and 2, and no others.
func TestFirstBytes(t *testing.T) {
	for a := range 256 {
		for b := range 256 {
			data := string([]byte{byte(a), byte(b)}) + "a\x00octet\x00"
			if a == 0 && (b == 1 || b == 2) {
				wantRequest(t, data, tftp.Request{Write: b == 2, Name: "a", Mode: "octet"})
			} else {
				wantNone(t, data)
			}
		}
	}
}

// P19.1, P19.2: names have 1 to 128 bytes.
func TestNameSizes(t *testing.T) {
	for n := range 300 {
		data, r := "\x00\x01"+xs(n)+"\x00octet\x00", tftp.Request{Name: xs(n), Mode: "octet"}
		if n >= 1 && n <= 128 {
			wantRequest(t, data, r)
			wantBytes(t, r, data)
		} else {
			wantNone(t, data)
			wantNotBuilt(t, r)
		}
	}
}

// P19.1, P19.2: a name's bytes are from 32 to 126, wherever they stand.
func TestNameBytes(t *testing.T) {
	for b := range 256 {
		x := string([]byte{byte(b)})
		for _, name := range []string{x, x + "a", "a" + x, "a" + x + "b", xs(127) + x, x + xs(127)} {
			data, r := "\x00\x02"+name+"\x00mail\x00", tftp.Request{Write: true, Name: name, Mode: "mail"}
			if b >= 32 && b <= 126 {
				wantRequest(t, data, r)
				wantBytes(t, r, data)
			} else {
				wantNone(t, data)
				wantNotBuilt(t, r)
			}
		}
	}
	for _, name := range []string{"\u00e9", "a\u20ac", "\xe2\x82", "a\tb", "a\r\n"} {
		wantNone(t, "\x00\x01"+name+"\x00octet\x00")
		wantNotBuilt(t, tftp.Request{Name: name, Mode: "octet"})
	}
}

// P19.1, P19.2: an option's word and its value have 1 to 128 bytes each.
func TestOptionSizes(t *testing.T) {
	for _, n := range []int{0, 1, 2, 126, 127, 128, 129, 130, 255, 256, 1000} {
		for _, m := range []int{0, 1, 2, 126, 127, 128, 129, 130, 255, 256, 1000} {
			for _, ahead := range [][]tftp.Option{nil, {{"a", "b"}}} {
				for _, behind := range [][]tftp.Option{nil, {{"c", "d"}}} {
					r := tftp.Request{Name: "a", Mode: "octet", Options: slices.Concat(ahead, []tftp.Option{{xs(n), xs(m)}}, behind)}
					data := "\x00\x01a\x00octet\x00"
					for _, o := range r.Options {
						data += o.Name + "\x00" + o.Value + "\x00"
					}
					if n >= 1 && n <= 128 && m >= 1 && m <= 128 {
						wantRequest(t, data, r)
						wantBytes(t, r, data)
					} else {
						wantNone(t, data)
						wantNotBuilt(t, r)
					}
				}
			}
		}
	}
}

// P19.1, P19.2: an option's bytes are any but 0, also such as are no UTF-8.
func TestOptionBytes(t *testing.T) {
	for b := 1; b < 256; b++ {
		x := string([]byte{byte(b)})
		for _, o := range []tftp.Option{{x, "v"}, {"w", x}, {x, x}, {"w" + x, x + "v"}, {x + xs(127), xs(127) + x}} {
			r := tftp.Request{Name: "a", Mode: "octet", Options: []tftp.Option{o}}
			data := "\x00\x01a\x00octet\x00" + o.Name + "\x00" + o.Value + "\x00"
			wantRequest(t, data, r)
			wantBytes(t, r, data)
		}
	}
}

// P19.1: a byte 0 that is missing behind the name, the mode, a word and a value, and a word without a value.
func TestEndsMissing(t *testing.T) {
	for _, data := range []string{
		"\x00\x01a", "\x00\x01aoctet", "\x00\x01" + xs(128), "\x00\x01" + xs(129), "\x00\x01" + xs(5000),
		"\x00\x01a\x00", "\x00\x01a\x00octet", "\x00\x02a\x00mail", "\x00\x01aoctet\x00", "\x00\x01octet\x00",
		"\x00\x01a\x00octet\x00w", "\x00\x01a\x00octet\x00w\x00", "\x00\x01a\x00octet\x00w\x00v", "\x00\x01a\x00octet\x00" + xs(128), "\x00\x01a\x00octet\x00w\x00" + xs(128),
		"\x00\x01a\x00octet\x00" + xs(5000), "\x00\x01a\x00octet\x00w\x00" + xs(5000),
		"\x00\x01a\x00octet\x00w\x00v\x00w", "\x00\x01a\x00octet\x00w\x00v\x00w\x00", "\x00\x01a\x00octet\x00w\x00v\x00w\x00v",
	} {
		wantNone(t, data)
	}
}

// P19.1: nothing else stands behind the mode or the last option, a byte 0 neither.
func TestBehindTheEnd(t *testing.T) {
	for _, c := range plainCases {
		for b := range 256 {
			wantNone(t, c.data+string([]byte{byte(b)}))
			wantNone(t, c.data+string([]byte{byte(b), 0}))
			wantNone(t, c.data+string([]byte{0, byte(b)}))
			wantNone(t, c.data+string([]byte{byte(b), byte(b)}))
			wantNone(t, c.data+string([]byte{0, byte(b), 0}))
			wantNone(t, c.data+string([]byte{byte(b), 0, 0}))
		}
		wantNone(t, c.data+c.data)
	}
}

// P19.1, P19.2: options in any number, in order.
func TestManyOptions(t *testing.T) {
	for _, n := range []int{0, 1, 2, 3, 10, 100, 20000} {
		r := tftp.Request{Name: "a", Mode: "octet"}
		var data strings.Builder
		data.WriteString("\x00\x01a\x00octet\x00")
		for i := range n {
			o := tftp.Option{Name: xs(1 + i%128), Value: strings.Repeat("v", 1+i%127)}
			r.Options = append(r.Options, o)
			data.WriteString(o.Name + "\x00" + o.Value + "\x00")
		}
		wantRequest(t, data.String(), r)
		wantBytes(t, r, data.String())
	}
}

// P19.2: a mode that is not in small letters, or is none.
func TestBuildModes(t *testing.T) {
	for _, mode := range []string{"octet", "netascii", "mail"} {
		for i, as := range sizes(mode) {
			r := tftp.Request{Name: "a", Mode: as}
			if i == 0 {
				wantBytes(t, r, "\x00\x01a\x00"+as+"\x00")
			} else {
				wantNotBuilt(t, r)
			}
		}
		wantNotBuilt(t, tftp.Request{Name: "a", Mode: mode + "\x00"})
		wantNotBuilt(t, tftp.Request{Name: "a", Mode: "\x00" + mode})
	}
	for _, mode := range wrongModes() {
		wantNotBuilt(t, tftp.Request{Name: "a", Mode: mode})
	}
	wantNotBuilt(t, tftp.Request{})
	wantNotBuilt(t, tftp.Request{Name: "a"})
	wantNotBuilt(t, tftp.Request{Mode: "octet"})
}

// P19.2, P19.4: a byte 0 within a text, also where the bytes would be another request.
func TestBuildZeros(t *testing.T) {
	for _, text := range []string{"\x00", "a\x00", "\x00a", "a\x00b", "a\x00octet", "a\x00octet\x00w", "a\x00v\x00w", xs(126) + "\x00x", xs(127) + "\x00"} {
		wantNotBuilt(t, tftp.Request{Name: text, Mode: "octet"})
		wantNotBuilt(t, tftp.Request{Name: "a", Mode: text})
		wantNotBuilt(t, tftp.Request{Name: "a", Mode: "octet\x00w\x00v"})
		for _, o := range []tftp.Option{{text, "v"}, {"w", text}, {text, text}} {
			wantNotBuilt(t, tftp.Request{Name: "a", Mode: "octet", Options: []tftp.Option{o}})
			wantNotBuilt(t, tftp.Request{Name: "a", Mode: "octet", Options: []tftp.Option{{"w", "v"}, o, {"w", "v"}}})
		}
	}
}

// P19.3: a place of UDP, at the zero address, for each port that there is.
func TestAsks(t *testing.T) {
	for port := 1; port < 65536; port++ {
		for _, data := range []string{"\x00\x01a\x00octet\x00", "\x00\x02b\x00MAIL\x00w\x00v\x00"} {
			if got := tftp.Asks(port, []byte(data)); !slices.Equal(got, []api.Ask{{Proto: 17, Port: port}}) {
				t.Fatalf("Asks(%d, %q): %+v", port, data, got)
			}
		}
	}
}

// P19.3: ports that there are not, and data that are no request.
func TestAsksNone(t *testing.T) {
	for _, port := range []int{math.MinInt, -65536, -2, -1, 0, 65536, 65537, 1 << 32, 1<<32 + 2000, math.MaxInt} {
		for _, c := range plainCases {
			if got := tftp.Asks(port, []byte(c.data)); len(got) != 0 {
				t.Errorf("Asks(%d, %q): %+v", port, c.data, got)
			}
		}
		if got := tftp.Asks(port, nil); len(got) != 0 {
			t.Errorf("Asks(%d, nil): %+v", port, got)
		}
	}
	for _, port := range []int{1, 69, 65535} {
		for _, data := range []string{"", "\x00", "\x00\x01", "\x00\x03\x00\x01data", "\x00\x04\x00\x01", "\x00\x05\x00\x01no\x00", "\x00\x01a\x00octet", "\x00\x01a\x00octe\x00", "\x00\x01a\x00octet\x00\x00"} {
			if got := tftp.Asks(port, []byte(data)); len(got) != 0 {
				t.Errorf("Asks(%d, %q): %+v", port, data, got)
			}
		}
	}
}

// P19.5: no beginning that ends within the name or the mode is a request; of those that end later just the ones that end with an option are.
func TestBeginnings(t *testing.T) {
	for _, c := range plainCases {
		end := 2 + len(c.r.Name) + 1 + len(c.r.Mode) + 1
		ends := map[int]int{end: 0}
		for i, o := range c.r.Options {
			end += len(o.Name) + 1 + len(o.Value) + 1
			ends[end] = i + 1
		}
		for i := range len(c.data) + 1 {
			n, ok := ends[i]
			if !ok {
				wantNone(t, c.data[:i])
				continue
			}
			r := c.r
			r.Options = r.Options[:n]
			wantRequest(t, c.data[:i], r)
		}
	}
}

// R4: data are not written into, and what is answered does not change with them.
func TestDataStay(t *testing.T) {
	data := []byte("\x00\x02Name\x00OcTeT\x00Word\x00Value\x00w\x00v\x00")
	kept := bytes.Clone(data)
	r, ok := tftp.Parse(data)
	asks := tftp.Asks(7, data)
	if !bytes.Equal(data, kept) {
		t.Errorf("the data were turned: %q", data)
	}
	for i := range data {
		data[i] = 'x'
	}
	want := tftp.Request{Write: true, Name: "Name", Mode: "octet", Options: []tftp.Option{{"Word", "Value"}, {"w", "v"}}}
	if !ok || !same(r, want) {
		t.Errorf("the request was turned: %+v", r)
	}
	if !slices.Equal(asks, []api.Ask{{Proto: api.UDP, Port: 7}}) {
		t.Errorf("the places were turned: %+v", asks)
	}
}

// R4: a request that is built is not written into, and the bytes do not change with it.
func TestRequestStays(t *testing.T) {
	options := make([]tftp.Option, 3, 8)
	copy(options, []tftp.Option{{"a", "b"}, {"c", "d"}, {"e", "f"}})
	r := tftp.Request{Name: "n", Mode: "octet", Options: options[:2]}
	b, ok := tftp.Build(r)
	if !ok || !slices.Equal(options, []tftp.Option{{"a", "b"}, {"c", "d"}, {"e", "f"}}) {
		t.Fatalf("the options were turned: %+v", options)
	}
	options[0] = tftp.Option{Name: "x", Value: "y"}
	if string(b) != "\x00\x01n\x00octet\x00a\x00b\x00c\x00d\x00" {
		t.Errorf("the bytes were turned: %q", b)
	}
}

// R3, R4: what is answered is the caller's, with the room behind its end, and the same call has the same answer.
func TestAnswersAreTheCallers(t *testing.T) {
	data := []byte("\x00\x02n\x00octet\x00a\x00b\x00c\x00d\x00e\x00f\x00")
	want := tftp.Request{Write: true, Name: "n", Mode: "octet", Options: []tftp.Option{{"a", "b"}, {"c", "d"}, {"e", "f"}}}
	for range 4 {
		r, ok := tftp.Parse(data)
		if !ok || !same(r, want) {
			t.Fatalf("Parse: %+v, %v", r, ok)
		}
		b, ok := tftp.Build(want)
		if !ok || !bytes.Equal(b, data) {
			t.Fatalf("Build: %q, %v", b, ok)
		}
		asks := tftp.Asks(9, data)
		if !slices.Equal(asks, []api.Ask{{Proto: api.UDP, Port: 9}}) {
			t.Fatalf("Asks: %+v", asks)
		}
		scribble(r.Options, tftp.Option{Name: "z", Value: "z"})
		scribble(b, 'z')
		scribble(asks, api.Ask{Proto: 1, Port: 1})
	}
}

// scribble writes all over a list, the room behind its end too.
func scribble[T any](list []T, x T) {
	list = list[:cap(list)]
	for i := range list {
		list[i] = x
	}
}
