package addr

import (
	"strconv"
	"strings"

	"stockade/api"
)

// Text is an address's text; empty, if the address may not be.
func Text(a api.Addr) string {
	b := Bytes(a)
	if len(b) == 4 {
		return text4(b)
	}
	if len(b) == 16 {
		return text6(b)
	}
	return ""
}

// PrefixText is a prefix's text; empty, if the prefix may not be.
func PrefixText(p api.Prefix) string {
	if !RightPrefix(p) {
		return ""
	}
	return Text(p.Addr) + "/" + strconv.Itoa(p.Bits)
}

func text4(b []byte) string {
	words := make([]string, len(b))
	for i, x := range b {
		words[i] = strconv.Itoa(int(x))
	}
	return strings.Join(words, ".")
}

func text6(b []byte) string {
	words := make([]string, len(b)/2)
	for i := range words {
		words[i] = strconv.FormatInt(int64(b[2*i])<<8|int64(b[2*i+1]), 16)
	}
	at, n := longestZeros(words)
	if n < 2 {
		return strings.Join(words, ":")
	}
	return strings.Join(words[:at], ":") + "::" + strings.Join(words[at+n:], ":")
}

// longestZeros is where the longest row of groups that are 0 begins, the first of several, and how many it has.
func longestZeros(words []string) (at, n int) {
	run := 0
	for i, w := range words {
		if w != "0" {
			run = 0
			continue
		}
		run++
		if run > n {
			at, n = i+1-run, run
		}
	}
	return at, n
}

// Parse is the address of a text.
func Parse(s string) (api.Addr, api.Errno) {
	b, ok := parse4(s)
	if !ok {
		b, ok = parse6(s)
	}
	if !ok {
		return api.Addr{}, api.ErrArg
	}
	return From(b)
}

// ParsePrefix is the prefix of a text; an address alone is a prefix of all of its bits.
func ParsePrefix(s string) (api.Prefix, api.Errno) {
	text, tail, cut := strings.Cut(s, "/")
	a, e := Parse(text)
	if e != api.OK {
		return api.Prefix{}, e
	}
	p := api.Prefix{Addr: a, Bits: width(a)}
	if !cut {
		return p, api.OK
	}
	n, ok := number(tail, p.Bits)
	p.Bits = n
	if !ok || !RightPrefix(p) {
		return api.Prefix{}, api.ErrArg
	}
	return p, api.OK
}

func parse4(s string) ([]byte, bool) {
	words := strings.SplitN(s, ".", 5)
	if len(words) != 4 {
		return nil, false
	}
	b := make([]byte, 0, 4)
	for _, w := range words {
		n, ok := number(w, 255)
		if !ok {
			return nil, false
		}
		b = append(b, byte(n))
	}
	return b, true
}

func parse6(s string) ([]byte, bool) {
	ahead, behind, cut := strings.Cut(s, "::")
	head, ok := groups(ahead)
	if !ok {
		return nil, false
	}
	tail, ok := groups(behind)
	if !ok {
		return nil, false
	}
	missing := 16 - len(head) - len(tail)
	// `::` stands in the place of one group at least, and nothing else stands in the place of any.
	if missing < 0 || cut != (missing > 0) {
		return nil, false
	}
	b := append(head, make([]byte, missing)...)
	return append(b, tail...), true
}

// groups are the bytes of the groups of a text, which may be empty and then has none.
func groups(s string) ([]byte, bool) {
	if s == "" {
		return nil, true
	}
	var b []byte
	for _, w := range strings.SplitN(s, ":", 9) {
		n, ok := group(w)
		if !ok {
			return nil, false
		}
		b = append(b, byte(n>>8), byte(n))
	}
	return b, true
}

// group is the number of one to four hexadecimal digits.
func group(s string) (int, bool) {
	n := 0
	for i, r := range s {
		d, ok := hexDigit(r)
		if !ok || i >= 4 {
			return 0, false
		}
		n = n<<4 | d
	}
	return n, s != ""
}

func hexDigit(r rune) (int, bool) {
	switch {
	case '0' <= r && r <= '9':
		return int(r - '0'), true
	case 'a' <= r && r <= 'f':
		return int(r-'a') + 10, true
	case 'A' <= r && r <= 'F':
		return int(r-'A') + 10, true
	}
	return 0, false
}

// number is the number of digits with no needless 0 ahead, if it is at most most; it ends at the first wrong rune, so that no number leaves 64 bits.
func number(s string, most int) (int, bool) {
	n := 0
	for i, r := range s {
		if r < '0' || r > '9' || i > 0 && n == 0 {
			return 0, false
		}
		n = n*10 + int(r-'0')
		if n > most {
			return 0, false
		}
	}
	return n, s != ""
}
