package conf

import (
	"strings"

	"stockade/api"
)

// term is a word of the text, and the number that it stands for.
type term struct {
	word string
	num  int
}

func protos() []term {
	return []term{{"tcp", api.TCP}, {"udp", api.UDP}, {"icmp", api.ICMP}, {"icmp6", api.ICMP6}}
}

func actions() []term {
	return []term{{"allow", api.Allow}, {"deny", api.Deny}}
}

func helpers() []term {
	return []term{{"ftp", api.FTP}, {"tftp", api.TFTP}, {"sip", api.SIP}}
}

// numOf is the number that a word stands for, if it is one of the list.
func numOf(list []term, word string) (int, bool) {
	for _, t := range list {
		if t.word == word {
			return t.num, true
		}
	}
	return 0, false
}

// wordOf is the word that stands for a number, if the list has one.
func wordOf(list []term, num int) (string, bool) {
	for _, t := range list {
		if t.num == num {
			return t.word, true
		}
	}
	return "", false
}

// wordsOf are the words of a line. What is no blank of these two is of a word, whatever byte it is.
func wordsOf(line string) []string {
	counts, _, _ := strings.Cut(line, "#")
	return strings.FieldsFunc(counts, func(r rune) bool { return r == ' ' || r == '\t' })
}

func isLetter(b byte) bool {
	return 'a' <= b && b <= 'z' || 'A' <= b && b <= 'Z'
}

func isDigit(b byte) bool {
	return '0' <= b && b <= '9'
}

// isName tells whether a text is a NAME. It is bounded first, so that a long text costs nothing.
func isName(s string) bool {
	if s == "" || len(s) > api.MaxName || s == anyZone || !isLetter(s[0]) {
		return false
	}
	for i := range len(s) {
		if !isLetter(s[i]) && !isDigit(s[i]) && s[i] != '-' && s[i] != '_' {
			return false
		}
	}
	return true
}

// isNumber tells whether a text is a number, however great.
func isNumber(s string) bool {
	if s == "" || s[0] == '0' && s != "0" {
		return false
	}
	for i := range len(s) {
		if !isDigit(s[i]) {
			return false
		}
	}
	return true
}
