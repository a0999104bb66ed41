package tftp

const most = 128 // bytes of a text

// text is what stands ahead of the first byte 0, and what is behind that byte. It looks no further than a text may go, so that a long row of other bytes costs nothing.
func text(data []byte) (string, []byte, bool) {
	for i := range min(len(data), most+1) {
		if data[i] == 0 {
			return string(data[:i]), data[i+1:], i > 0
		}
	}
	return "", nil, false
}

// put adds a text and its end.
func put(b []byte, s string) []byte {
	return append(append(b, s...), 0)
}

// sized tells whether a text may stand in a request: the byte 0 would end it early.
func sized(s string) bool {
	if len(s) < 1 || len(s) > most {
		return false
	}
	for i := range len(s) {
		if s[i] == 0 {
			return false
		}
	}
	return true
}

// printed tells whether a text has only such bytes as a file's name may have.
func printed(s string) bool {
	for i := range len(s) {
		if s[i] < 32 || s[i] > 126 {
			return false
		}
	}
	return true
}

// known tells whether a mode in small letters is one.
func known(mode string) bool {
	switch mode {
	case "octet", "netascii", "mail":
		return true
	}
	return false
}

// small makes the letters of a mode small, byte by byte: no letter beyond the 26 is one of a mode's, whatever it would become.
func small(mode string) string {
	b := []byte(mode)
	for i := range len(b) {
		if b[i] >= 'A' && b[i] <= 'Z' {
			b[i] += 'a' - 'A'
		}
	}
	return string(b)
}
