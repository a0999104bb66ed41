package ftp

import (
	"strings"

	"stockade/addr"
	"stockade/api"
)

const (
	maxByte = 255
	maxPort = 65535
)

// command is the place that a line of side 0 says.
func command(fam int, line string) (api.Ask, bool) {
	if rest, ok := behind("PORT ", line); ok && fam == 4 {
		return six(rest)
	}
	if rest, ok := behind("EPRT ", line); ok {
		return extended(fam, rest)
	}
	return api.Ask{}, false
}

// answer is the place that a line of side 1 says.
func answer(fam int, line string) (api.Ask, bool) {
	if rest, ok := behind("227 ", line); ok && fam == 4 {
		return six(within(rest))
	}
	if rest, ok := behind("229 ", line); ok {
		return portAlone(within(rest))
	}
	return api.Ask{}, false
}

// behind is what is behind a head, if a line begins with it in letters of either size. A head has runes of one byte alone, so its places are the line's as long as the two are alike.
func behind(head, line string) (string, bool) {
	if len(line) < len(head) {
		return "", false
	}
	for i, r := range line[:len(head)] {
		if upper(r) != rune(head[i]) {
			return "", false
		}
	}
	return line[len(head):], true
}

func upper(r rune) rune {
	if 'a' <= r && r <= 'z' {
		return r - 'a' + 'A'
	}
	return r
}

// within is what is between the first `(` and the first `)` behind that. Without them it is empty, which says nothing.
func within(text string) string {
	_, rest, _ := strings.Cut(text, "(")
	inner, _, closed := strings.Cut(rest, ")")
	if !closed {
		return ""
	}
	return inner
}

// six is the place of six numbers.
func six(text string) (api.Ask, bool) {
	words := strings.SplitN(text, ",", 7)
	if len(words) != 6 {
		return api.Ask{}, false
	}
	b := make([]byte, 0, 6)
	for _, w := range words {
		n, ok := number(w, maxByte)
		if !ok {
			return api.Ask{}, false
		}
		b = append(b, byte(n))
	}
	a, e := addr.From(b[:4])
	return place(a, int(b[4])<<8|int(b[5]), e == api.OK)
}

// extended is the place of a family's number, an address and a port.
func extended(fam int, text string) (api.Ask, bool) {
	net, host, port := fields(text)
	if net != netOf(fam) {
		return api.Ask{}, false
	}
	a, e := addr.Parse(host)
	n, ok := number(port, maxPort)
	return place(a, n, ok && e == api.OK && a.Fam == fam)
}

// portAlone is the place of a port, at the zero address.
func portAlone(text string) (api.Ask, bool) {
	net, host, port := fields(text)
	n, ok := number(port, maxPort)
	return place(api.Addr{}, n, ok && net == "" && host == "")
}

// netOf is how an EPRT writes a family.
func netOf(fam int) string {
	if fam == 4 {
		return "1"
	}
	return "2"
}

// fields are the three parts that stand between four bytes d, the first one the text's first byte, and the last one its last. If there are not just four they are empty, and no port is.
func fields(text string) (net, host, port string) {
	if text == "" || !mayBeD(text[0]) {
		return "", "", ""
	}
	f := strings.SplitN(text, text[:1], 6)
	if len(f) != 5 || f[4] != "" {
		return "", "", ""
	}
	return f[1], f[2], f[3]
}

// mayBeD tells whether a byte may be d: it is a whole rune, so a text may be split at it.
func mayBeD(d byte) bool {
	return 33 <= d && d <= 126 && !isDigit(rune(d))
}

// place is a place, if all ahead of it held, and the port is one.
func place(a api.Addr, port int, holds bool) (api.Ask, bool) {
	if !holds || port < 1 || port > maxPort {
		return api.Ask{}, false
	}
	return api.Ask{Proto: api.TCP, Addr: a, Port: port}, true
}

// number is the number that a text is, if it is at most most. It ends at the first wrong rune, so that no number leaves 64 bits.
func number(text string, most int) (int, bool) {
	n := 0
	for i, r := range text {
		if !isDigit(r) || i > 0 && n == 0 {
			return 0, false
		}
		n = n*10 + int(r-'0')
		if n > most {
			return 0, false
		}
	}
	return n, text != ""
}

func isDigit(r rune) bool { return '0' <= r && r <= '9' }
