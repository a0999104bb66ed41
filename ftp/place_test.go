package ftp_test

import (
	"fmt"
	"strings"
	"testing"

	"stockade/addr"
	"stockade/api"
	"stockade/ftp"
)

func says(t testing.TB, fam, side int, line string, want api.Ask) {
	t.Helper()
	if got, ok := ftp.Place(fam, side, line); !ok || got != want {
		t.Errorf("Place(%d, %d, %q): %+v, %v, want %+v", fam, side, line, got, ok, want)
	}
}

func saysNothing(t testing.TB, fam, side int, lines ...string) {
	t.Helper()
	for _, line := range lines {
		if got, ok := ftp.Place(fam, side, line); ok || got != (api.Ask{}) {
			t.Errorf("Place(%d, %d, %q): %+v, %v", fam, side, line, got, ok)
		}
	}
}

// either says a place if a question holds, else nothing.
func either(t testing.TB, holds bool, fam, side int, line string, want api.Ask) {
	t.Helper()
	if holds {
		says(t, fam, side, line, want)
	} else {
		saysNothing(t, fam, side, line)
	}
}

// The chapter's examples, the one of the test, and those of DOC.md.
func TestExamples(t *testing.T) {
	says(t, 4, 0, "PORT 10,0,0,1,7,208", at(a4(10, 0, 0, 1), 2000))
	says(t, 4, 0, "port 10,0,0,1,7,208", at(a4(10, 0, 0, 1), 2000))
	says(t, 4, 1, "229 ok (|||2000|)", at(api.Addr{}, 2000))
	says(t, 6, 1, "229 ok (|||2000|)", at(api.Addr{}, 2000))
	says(t, 4, 0, "EPRT |1|132.235.1.2|6275|", at(a4(132, 235, 1, 2), 6275))
	says(t, 6, 0, "EPRT |2|1080::8:800:200C:417A|5282|", at(a6(0x1080<<48, 0x00080800200c417a), 5282))
	says(t, 4, 1, "227 Entering Passive Mode (10,0,0,2,7,209).", at(a4(10, 0, 0, 2), 2001))
	says(t, 6, 1, "229 Entering Extended Passive Mode (|||6446|)", at(api.Addr{}, 6446))
}

// P18.2: a place is of TCP, an address of its family, or the zero one, and of a port, in that order of numbers.
func TestPlaceParts(t *testing.T) {
	for i, hosts := range [][4]int{{0, 0, 0, 0}, {1, 2, 3, 4}, {255, 254, 253, 252}, {255, 255, 255, 255}, {127, 0, 0, 1}} {
		for _, port := range []int{1, 2, 20, 21, 255, 256, 257, 511, 512, 2000, 65279, 65280, 65534, 65535} {
			a := a4(hosts[0], hosts[1], hosts[2], hosts[3])
			list := fmt.Sprintf("%d,%d,%d,%d,%d,%d", hosts[0], hosts[1], hosts[2], hosts[3], port/256, port%256)
			says(t, 4, 0, "PORT "+list, at(a, port))
			says(t, 4, 1, "227 ("+list+")", at(a, port))
			says(t, 4, 0, fmt.Sprintf("EPRT |1|%s|%d|", addr.Text(a), port), at(a, port))
			six := a6(uint64(i), a.Lo)
			says(t, 6, 0, fmt.Sprintf("EPRT |2|%s|%d|", addr.Text(six), port), at(six, port))
			for _, fam := range []int{4, 6} {
				says(t, fam, 1, fmt.Sprintf("229 (|||%d|)", port), at(api.Addr{}, port))
			}
		}
	}
}

// around are a text with one of the others put ahead of it and behind it.
func around(text string) []string {
	var list []string
	for _, x := range []string{" ", "  ", "\t", "\r", "\n", "\r\n", "\x00", "x", "0", "1", ",", "|", "(", ")", "-", "+", ".", "\x7f", "\x80", "\xff", "\u00e9", "\u0661", "\uff11"} {
		list = append(list, x+text, text+x)
	}
	return list
}

// P18.2, P18.6: nothing else is in a line of side 0.
func TestCommandAlone(t *testing.T) {
	for _, c := range saying {
		if c.side == 0 {
			saysNothing(t, c.fam, 0, around(c.line)...)
			saysNothing(t, c.fam, 0, c.line+" "+c.line, c.line+c.line, c.line+"\r\n"+c.line)
			for i := 1; i < len(c.line); i++ {
				saysNothing(t, c.fam, 0, c.line[i:])
			}
			for i := range strings.LastIndexAny(c.line[:len(c.line)-1], ",|") + 1 {
				saysNothing(t, c.fam, 0, c.line[:i])
			}
		}
	}
}

// wrongHeads are what looks like a word and a blank, but is not.
func wrongHeads(word string) []string {
	var list []string
	for _, blank := range []string{"", "\t", "\x00", "\n", "\r\n", "@", "-", "_", "\u00a0", "\xa0", "\u3000"} {
		list = append(list, word+blank)
	}
	for _, ahead := range []string{" ", "\t", "x", "2", "\x00", "\xff", "\ufeff", "\r\n"} {
		list = append(list, ahead+word+" ")
	}
	list = append(list, "", " ", word[1:]+" ", word[:len(word)-1]+" ", word[:1]+" "+word[1:]+" ", word+word+" ", word+"S ", word+"0 ")
	for i := range word {
		for x := range 256 {
			b := []byte(word + " ")
			b[i] = byte(x)
			letter := 'A' <= word[i] && word[i] <= 'Z'
			if b[i] != word[i] && !(letter && b[i] == word[i]+32) {
				list = append(list, string(b))
			}
		}
	}
	return list
}

// otherHeads are heads that are no word's of the chapter.
func otherHeads() []string {
	return []string{"\uff30ORT ", "P\u039fRT ", "POR\u0422 ", "\u0395PRT ", "STOR ", "PASV ", "EPSV ", "LPRT ", "220 ", "226 ", "228 ", "230 ", "127 ", "329 ", "527 ", "0227 ", "+227 ", "\u06622\u0667 "}
}

// P18.2, P18.5: a word and a blank, and nothing that looks like them; nor what stands behind another word.
func TestHeads(t *testing.T) {
	for _, c := range saying {
		word, rest, _ := strings.Cut(c.line, " ")
		for _, head := range append(wrongHeads(word), otherHeads()...) {
			if head != "227 " && head != "229 " {
				saysNothing(t, c.fam, c.side, head+rest)
			}
		}
		saysNothing(t, c.fam, c.side, word, word+" ", word[:2], rest)
	}
	saysNothing(t, 4, 0, "PORT  10,0,0,1,7,208", "EPRT  |1|10.0.0.1|2000|", "PORT |1|10.0.0.1|2000|", "EPRT 10,0,0,1,7,208")
	saysNothing(t, 4, 1, "227(10,0,0,1,7,208)", "229(|||2000|)", "227-(10,0,0,1,7,208)", "229 (10,0,0,1,7,208)", "227 (|||2000|)")
	says(t, 4, 1, "227  (10,0,0,1,7,208)", at(a4(10, 0, 0, 1), 2000))
	says(t, 6, 1, "229  (|||2000|)", at(api.Addr{}, 2000))
}

// sizes are all ways to write a word in letters of both sizes.
func sizes(word string) []string {
	list := []string{""}
	for _, r := range word {
		var more []string
		for _, head := range list {
			more = append(more, head+strings.ToUpper(string(r)), head+strings.ToLower(string(r)))
		}
		list = more
	}
	return list
}

// P18.5: a command in letters of both sizes.
func TestSizesOfLetters(t *testing.T) {
	for _, word := range sizes("port") {
		says(t, 4, 0, word+" 10,0,0,1,7,208", at(a4(10, 0, 0, 1), 2000))
		saysNothing(t, 4, 0, word+" 10,0,0,1,7,256", word+"\t10,0,0,1,7,208", word+"10,0,0,1,7,208")
		saysNothing(t, 6, 0, word+" 10,0,0,1,7,208")
	}
	for _, word := range sizes("eprt") {
		says(t, 4, 0, word+" |1|10.0.0.1|2000|", at(a4(10, 0, 0, 1), 2000))
		says(t, 6, 0, word+" |2|2001:dB8::aBcD|2000|", at(a6(0x20010db8<<32, 0xabcd), 2000))
		saysNothing(t, 4, 0, word+" |1|10.0.0.1|0|", word+"\t|1|10.0.0.1|2000|")
	}
}

// P18.5: d is one and the same byte, so a letter of the other size is another one.
func TestSizesOfD(t *testing.T) {
	says(t, 4, 0, "EPRT x1x10.0.0.1x2000x", at(a4(10, 0, 0, 1), 2000))
	says(t, 4, 0, "eprt X1X10.0.0.1X2000X", at(a4(10, 0, 0, 1), 2000))
	says(t, 6, 0, "EPRT a2a::Aa2000a", at(a6(0, 10), 2000))
	says(t, 6, 0, "EPRT A2A::aA2000A", at(a6(0, 10), 2000))
	saysNothing(t, 4, 0, "EPRT x1X10.0.0.1x2000X", "EPRT x1x10.0.0.1x2000X", "EPRT X1x10.0.0.1x2000x")
	saysNothing(t, 6, 0, "EPRT a2a::aa2000a", "EPRT A2A::AA2000A")
	says(t, 4, 1, "229 (xxx2000x)", at(api.Addr{}, 2000))
	saysNothing(t, 4, 1, "229 (xXx2000x)", "229 (xxx2000X)", "229 (Xxx2000x)")
}

// P18.2: six numbers, each at its edges, with needless 0s, with signs and without digits.
func TestSixNumbers(t *testing.T) {
	for i := range 6 {
		for text, n := range map[string]int{"0": 0, "1": 1, "9": 9, "10": 10, "99": 99, "100": 100, "199": 199, "249": 249, "250": 250, "254": 254, "255": 255} {
			words, nums := []string{"1", "2", "3", "4", "5", "6"}, []int{1, 2, 3, 4, 5, 6}
			words[i], nums[i] = text, n
			list := strings.Join(words, ",")
			want := at(a4(nums[0], nums[1], nums[2], nums[3]), nums[4]*256+nums[5])
			says(t, 4, 0, "PORT "+list, want)
			says(t, 4, 1, "227 ("+list+")", want)
		}
		for _, text := range []string{"", " ", "256", "257", "260", "300", "999", "1000", "00", "01", "001", "010", "0255", "0x1", "-0", "-1", "+1", "1.", "1.0", "1e1", "a", "ff", "1 ", " 1", "1\t", "1\x00", "\xff", "1\x80", "\u0661", "\uff11", "65537", "4294967297", "18446744073709551617", "9223372036854775808", strings.Repeat("1", 480), strings.Repeat("0", 480)} {
			words := []string{"1", "2", "3", "4", "5", "6"}
			words[i] = text
			list := strings.Join(words, ",")
			saysNothing(t, 4, 0, "PORT "+list)
			saysNothing(t, 4, 1, "227 ("+list+")")
		}
	}
}

// P18.2: ports of six numbers, which are from 1 on.
func TestSixNumbersPort(t *testing.T) {
	for hi := range 256 {
		for lo := range 256 {
			list := fmt.Sprintf("10,0,0,1,%d,%d", hi, lo)
			either(t, hi+lo > 0, 4, 0, "PORT "+list, at(a4(10, 0, 0, 1), hi*256+lo))
			either(t, hi+lo > 0, 4, 1, "227 x("+list+")", at(a4(10, 0, 0, 1), hi*256+lo))
		}
	}
}

// P18.2: one number to nine, and other bytes between.
func TestNotSixNumbers(t *testing.T) {
	for n := range 10 {
		list := strings.Join(strings.Split("123456789"[:n], ""), ",")
		either(t, n == 6, 4, 0, "PORT "+list, at(a4(1, 2, 3, 4), 5*256+6))
		either(t, n == 6, 4, 1, "227 ("+list+")", at(a4(1, 2, 3, 4), 5*256+6))
	}
	for _, list := range []string{",", ",,,,,", ",,,,,,", ",1,2,3,4,5,6", "1,2,3,4,5,6,", ",1,2,3,4,5", "1,2,3,4,5,", "1,,2,3,4,5", "1,2,3,,4,5,6", "1;2;3;4;5;6", "1.2.3.4,5,6", "1,2,3,4.5,6", "1, 2,3,4,5,6", "1 ,2,3,4,5,6", "1,2,3,4,5,6 ", " 1,2,3,4,5,6", "1 2 3 4 5 6", "1\uff0c2,3,4,5,6", "1,2,3,4,5\x806", "(1,2,3,4,5,6)", "1,2,3,4,5,6\r", "\n1,2,3,4,5,6"} {
		saysNothing(t, 4, 0, "PORT "+list)
		saysNothing(t, 4, 1, "227 ("+list+")")
	}
}

// P18.2: PORT and 227 are of family 4 alone; EPRT says its family, and 229 is of both.
func TestFamilies(t *testing.T) {
	saysNothing(t, 6, 0, "PORT 10,0,0,1,7,208", "EPRT |1|10.0.0.1|2000|", "EPRT |2|10.0.0.1|2000|", "EPRT |1|::1|2000|")
	saysNothing(t, 4, 0, "EPRT |2|::1|2000|", "EPRT |2|10.0.0.1|2000|", "EPRT |1|::1|2000|")
	saysNothing(t, 6, 1, "227 ok (10,0,0,1,7,208)")
	says(t, 6, 0, "EPRT |2|::1|2000|", at(a6(0, 1), 2000))
	says(t, 4, 0, "EPRT |1|10.0.0.1|2000|", at(a4(10, 0, 0, 1), 2000))
	for _, fam := range []int{4, 6} {
		host := map[int]string{4: "10.0.0.1", 6: "::1"}[fam]
		right := map[int]string{4: "1", 6: "2"}[fam]
		for _, net := range []string{"", "0", "1", "2", "3", "4", "6", "01", "02", "11", "12", "10", "20", " 1", "2 ", "+1", "-2", "x", "1\x00", "\u0661", "\xff", "IPv4"} {
			want, _ := addr.Parse(host)
			either(t, net == right, fam, 0, "EPRT |"+net+"|"+host+"|2000|", at(want, 2000))
		}
	}
}

// P18.2: a family or a side that there is not.
func TestPlaceWrong(t *testing.T) {
	for _, c := range saying {
		says(t, c.fam, c.side, c.line, c.want)
		for _, fam := range wrongFams() {
			saysNothing(t, fam, c.side, c.line)
			for _, side := range wrongSides() {
				saysNothing(t, fam, side, c.line, "")
			}
		}
		for _, side := range wrongSides() {
			saysNothing(t, c.fam, side, c.line)
		}
	}
	for _, fam := range []int{4, 6, 5} {
		for _, side := range []int{0, 1, 2} {
			saysNothing(t, fam, side, "", " ", "\x00", "\r\n", "x", "\xff", "PORT", "EPRT", "227", "229", "PORT ", "EPRT ", "227 ", "229 ", "227 (", "229 (", "227 ()", "229 ()", "EPRT |", "EPRT ||", "EPRT |||", "EPRT ||||", "EPRT |||||")
		}
	}
}

// P18.6: what one side says the other one can't.
func TestOtherSide(t *testing.T) {
	for _, c := range saying {
		says(t, c.fam, c.side, c.line, c.want)
		for _, fam := range []int{4, 6} {
			saysNothing(t, fam, 1-c.side, c.line)
		}
	}
	saysNothing(t, 4, 0, "227 10,0,0,1,7,208", "229 |||2000|", "PORT (10,0,0,1,7,208)", "EPRT (|1|10.0.0.1|2000|)")
	saysNothing(t, 4, 1, "PORT (10,0,0,1,7,208)", "PORT 10,0,0,1,7,208 (10,0,0,1,7,208)", "EPRT (|||2000|)", "227 10,0,0,1,7,208", "229 |||2000|")
}

// mayBeD are the bytes from 33 to 126, but digits.
func mayBeD(b int) bool { return 33 <= b && b <= 126 && (b < '0' || b > '9') }

// P18.2: every byte as d, of EPRT in both families, and of 229.
func TestEveryD(t *testing.T) {
	for b := range 256 {
		d := string([]byte{byte(b)})
		four := "EPRT " + d + "1" + d + "10.0.0.1" + d + "2000" + d
		either(t, mayBeD(b) && b != '.', 4, 0, four, at(a4(10, 0, 0, 1), 2000))
		six := "EPRT " + d + "2" + d + "ab::1" + d + "2000" + d
		either(t, mayBeD(b) && !strings.Contains("ab:", d), 6, 0, six, at(a6(0xab<<48, 1), 2000))
		for _, fam := range []int{4, 6} {
			either(t, mayBeD(b) && b != ')', fam, 1, "229 ok ("+d+d+d+"2000"+d+")", at(api.Addr{}, 2000))
		}
	}
	for _, d := range []string{"\u00e9", "\u20ac", "\uff5c", "||", "| "} {
		saysNothing(t, 4, 0, "EPRT "+d+"1"+d+"10.0.0.1"+d+"2000"+d)
		saysNothing(t, 4, 1, "229 ("+d+d+d+"2000"+d+")")
	}
}

// P18.2: one d that is unlike the others.
func TestOneOtherD(t *testing.T) {
	for i := range 4 {
		for _, x := range []string{"", "!", ",", "x", " ", "\x00", "\xff", "0", "1", "||"} {
			d := []string{"|", "|", "|", "|"}
			d[i] = x
			saysNothing(t, 4, 0, "EPRT "+d[0]+"1"+d[1]+"10.0.0.1"+d[2]+"2000"+d[3])
			saysNothing(t, 6, 0, "EPRT "+d[0]+"2"+d[1]+"::1"+d[2]+"2000"+d[3])
			saysNothing(t, 4, 1, "229 ok ("+d[0]+d[1]+d[2]+"2000"+d[3]+")")
		}
	}
}

// P18.2: d nowhere else, three times, and five times.
func TestDElsewhere(t *testing.T) {
	saysNothing(t, 4, 0, "EPRT .1.10.0.0.1.2000.", "EPRT |1|10|0.0.1|2000|", "EPRT |1|10.0.0.1|20|00|", "EPRT |1|10.0.0.1|2000||", "EPRT ||1|10.0.0.1|2000|", "EPRT |1|10.0.0.1||2000|", "EPRT |1||10.0.0.1|2000|", "EPRT |1|10.0.0.1|2000|x|", "EPRT |1|10.0.0.1|2000|x", "EPRT |1|10.0.0.1|2000", "EPRT 1|10.0.0.1|2000|", "EPRT |110.0.0.1|2000|", "EPRT |1|10.0.0.12000|", "EPRT x|1|10.0.0.1|2000|", "EPRT  |1|10.0.0.1|2000|", "EPRT |1|10.0.0.1|2000| ", "EPRT 11110.0.0.1120001", "EPRT 0100010.0.0.10020000")
	saysNothing(t, 6, 0, "EPRT :2:::1:2000:", "EPRT b2b2001:db8::1b2000b", "EPRT |2|20|01::1|2000|", "EPRT |2|::1|20|00|", "EPRT |2|::1|2000||", "EPRT |2|::1|2000", "EPRT |2|::12000|", "EPRT 22212::1220002")
	says(t, 6, 0, "EPRT .2.::1.2000.", at(a6(0, 1), 2000))
	says(t, 6, 0, "EPRT b2b2001:da8::1b2000b", at(a6(0x20010da8<<32, 1), 2000))
	says(t, 4, 0, "EPRT :1:10.0.0.1:2000:", at(a4(10, 0, 0, 1), 2000))
	saysNothing(t, 4, 1, "229 (||2000|)", "229 (||||2000|)", "229 (|||2000)", "229 (|||2000||)", "229 (|||20|00|)", "229 (||2000||)", "229 (|2000|||)", "229 (2000||||)", "229 (||||2000)", "229 (|1||2000|)", "229 (||10.0.0.1|2000|)", "229 (|1|10.0.0.1|2000|)", "229 (||||)", "229 (|||||)", "229 (2000)", "229 (1112000 1)", "229 (11120001)", "229 ( |||2000|)", "229 (|||2000| )", "229 (|||2000|x)", "229 (x|||2000|)")
}

// P18.2: d of a 229 may stand outside of the two, as what is there does not count.
func TestDOutside(t *testing.T) {
	says(t, 4, 1, "229 a|b (|||2000|) c|d", at(api.Addr{}, 2000))
	says(t, 6, 1, "229 Entering (eee2000e)", at(api.Addr{}, 2000))
	says(t, 6, 1, "229 ((((2000()", at(api.Addr{}, 2000))
}

// P18.2: addresses as layer 2 reads them, and what it does not.
func TestAddresses(t *testing.T) {
	for _, host := range []string{"0.0.0.0", "255.255.255.255", "1.2.3.4", "::", "::1", "1::", "2001:0DB8::1", "1:2:3:4:5:6:7:8", "fe80::1", "FFFF:ffff:FFFF:ffff:FFFF:ffff:FFFF:ffff", "0001:0:0:2:0:0:0:3"} {
		want, e := addr.Parse(host)
		if e != api.OK {
			t.Fatal(host)
		}
		for _, fam := range []int{4, 6} {
			for _, net := range []string{"1", "2"} {
				holds := want.Fam == fam && (net == "1") == (fam == 4)
				either(t, holds, fam, 0, "EPRT |"+net+"|"+host+"|2000|", at(want, 2000))
			}
		}
	}
	for _, host := range []string{"", " ", "1.2.3", "1.2.3.4.5", "1.2.3.256", "1.2.3.04", "01.2.3.4", "1,2,3,4", "1.2.3.4/32", " 1.2.3.4", "1.2.3.4 ", "::1/128", "[::1]", "::ffff:1.2.3.4", "fe80::1%1", ":::", "1:2:3:4:5:6:7", "1:2:3:4:5:6:7:8:9", "12345::", "g::", "::1\x00", "\xff", "::\u0661", "localhost"} {
		saysNothing(t, 4, 0, "EPRT |1|"+host+"|2000|", "EPRT |2|"+host+"|2000|")
		saysNothing(t, 6, 0, "EPRT |1|"+host+"|2000|", "EPRT |2|"+host+"|2000|")
	}
}

// P18.2: ports as numbers, at their edges.
func TestPorts(t *testing.T) {
	wrong := []string{"", " ", "0", "00", "01", "0001", "080", "65536", "65537", "65545", "65600", "66000", "70000", "99999", "100000", "655350", "131072", "4294967297", "18446744073709551617", "9223372036854775808", strings.Repeat("1", 480), strings.Repeat("0", 480), "-1", "+1", "1.", "1,2", "7,208", "0x50", "1e3", "ftp", "2000 ", " 2000", "20 00", "2000\x00", "2000\x80", "\xff", "\u0661", "\uff12\uff10"}
	for _, text := range wrong {
		saysNothing(t, 4, 0, "EPRT |1|10.0.0.1|"+text+"|")
		saysNothing(t, 6, 0, "EPRT |2|::1|"+text+"|")
		saysNothing(t, 4, 1, "229 ("+"|||"+text+"|)")
		saysNothing(t, 6, 1, "229 ("+"|||"+text+"|)")
	}
	for port := range 66000 {
		holds := 1 <= port && port <= 65535
		either(t, holds, 4, 0, fmt.Sprintf("EPRT |1|10.0.0.1|%d|", port), at(a4(10, 0, 0, 1), port))
		either(t, holds, 6, 1, fmt.Sprintf("229 (|||%d|)", port), at(api.Addr{}, port))
	}
}

// P18.2: the first `(` of the line, and the first `)` behind it.
func TestBetween(t *testing.T) {
	for line, inner := range map[string]string{"227": "10,0,0,1,7,208", "229": "|||2000|"} {
		want := at(api.Addr{}, 2000)
		if line == "227" {
			want.Addr = a4(10, 0, 0, 1)
		}
		for _, frame := range []string{" (@)", "  (@)", " ok (@)", " (@).", " x(@)x", " )(@)", " ) ) ok (@)", " (@))", " (@)(", " (@) (@)", " (@) (x)", " (@) ()", " (@)\x00\xff\r", " \xe2(@)\xe2", " \xff\x80\u20ac (@)", " \r\n(@)\r\n", " 1,2,3 |||1| (@)", " 227 229 PORT (@)", " \uff08(@)"} {
			says(t, 4, 1, line+strings.ReplaceAll(frame, "@", inner), want)
		}
		for _, frame := range []string{" @", " (@", " @)", " )@(", " ) ( @", " (@(", " ((@)", " ((@))", " ( (@)", " () (@)", " (x) (@)", " (x (@)", " (@ )", " ( @)", " (@\x00)", " (@\xff)", " (x@)", " ()", " (", " )", "", " ", " [@]", " <@>", " {@}", " \uff08@\uff09", " (@\uff09", "(@)", "-(@)", "\t(@)", " (@@)", " (@,)", " (@|)", " (,@)"} {
			saysNothing(t, 4, 1, line+strings.ReplaceAll(frame, "@", inner))
		}
	}
}

// P18.2: a line of 512 bytes says a place, one of 513 nothing, wherever its bytes stand.
func TestLongLines(t *testing.T) {
	for _, c := range saying {
		if c.side == 0 {
			continue
		}
		for _, size := range []int{510, 511, 512, 513, 514, 1024, 1 << 14, 1 << 20} {
			fill := strings.Repeat("x", size-len(c.line))
			for _, line := range []string{c.line + fill, c.line[:4] + fill + c.line[4:], c.line[:4] + strings.Repeat("\xff", len(fill)) + c.line[4:], c.line + strings.Repeat("\r", len(fill))} {
				either(t, size <= 512, c.fam, 1, line, c.want)
				either(t, size <= 512, c.fam, 1, line[:4]+" "+line[5:], c.want)
			}
		}
		wide := strings.Repeat("\u20ac", 170) // of 510 bytes, fewer runes
		saysNothing(t, c.fam, 1, c.line+wide)
	}
	line := "227 (10,0,0,1,7,208)"
	wantAsks(t, 4, 1, line+strings.Repeat("x", 512-len(line))+end, at(a4(10, 0, 0, 1), 2000))
	wantAsks(t, 4, 1, line+strings.Repeat("x", 513-len(line))+end+line+end, at(a4(10, 0, 0, 1), 2000))
	saysNothing(t, 4, 0, "PORT 10,0,0,1,7,208"+strings.Repeat(" ", 493), "PORT 10,0,0,1,7,"+strings.Repeat("0", 493)+"208")
}

// P18.2: lines of bytes from 128 on say nothing, and one such byte put into a line or in the place of one of its bytes makes it say nothing, but outside of `(` and `)`.
func TestHighBytes(t *testing.T) {
	for _, c := range saying {
		for i := range len(c.line) {
			for _, b := range []byte{128, 129, 160, 192, 208, 226, 240, 254, 255, c.line[i] | 128} {
				turned := []byte(c.line)
				turned[i] = b
				free := c.side == 1 && 4 <= i && i < strings.Index(c.line, "(")
				either(t, free, c.fam, c.side, string(turned), c.want)
			}
		}
	}
	for _, fam := range []int{4, 6} {
		for side := range 2 {
			saysNothing(t, fam, side, "\x80", "\xff\xff\xff\xff \xff", strings.Repeat("\xfe", 512), "\u00a7\u00a7\u00a7\u00a7 \u00a7", "\uff30\uff2f\uff32\uff34 1,2,3,4,5,6")
		}
	}
}
