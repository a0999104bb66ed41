package conf_test

import (
	"fmt"
	"slices"
	"strings"
	"testing"

	"stockade/addr"
	"stockade/api"
	"stockade/conf"
)

const example = "zone lan 90\nzone wan 10\niface 1 lan\npath 10.0.0.0/8 1\nrule wan lan dst 10.0.0.2 proto tcp dport 80 allow\nrule lan any allow"

// ground is a text whose zones, ifaces and paths the lines of other tests speak of: three lines of each.
const ground = "zone lan 90\nzone wan 10\nzone dmz 50\niface 1 lan\niface 2 wan\niface 0 wan\npath 10.0.0.0/8 1\npath 0.0.0.0/0 2\npath 2001:db8::/32 0\n"

const groundLines = 9

var all = api.Ports{Lo: 0, Hi: 65535}

func net(t testing.TB, s string) api.Prefix {
	t.Helper()
	p, e := addr.ParsePrefix(s)
	if e != api.OK {
		t.Fatal(s, e)
	}
	return p
}

// parsed is the configuration of a text that has no fault.
func parsed(t testing.TB, s string) api.Conf {
	t.Helper()
	c, f := conf.Parse(s)
	if f != (api.Fault{}) {
		t.Fatalf("Parse(%.300q): %v", s, f)
	}
	return c
}

// faulty asks for a text's fault, beside which there is nothing.
func faulty(t testing.TB, s string, why api.Errno, at int) {
	t.Helper()
	c, f := conf.Parse(s)
	if want := (api.Fault{Why: why, At: at}); f != want {
		t.Errorf("Parse(%.300q): %v, want %v", s, f, want)
	}
	if len(c.Zones)+len(c.Ifaces)+len(c.Paths)+len(c.Rules) != 0 {
		t.Errorf("Parse(%.300q): %v beside a fault", s, c)
	}
}

// grounded asks for the error of a line behind the ground; OK is none.
func grounded(t testing.TB, line string, why api.Errno) {
	t.Helper()
	if why == api.OK {
		parsed(t, ground+line)
		return
	}
	faulty(t, ground+line, why, groundLines+1)
}

// lastRule is the rule of a line behind the ground.
func lastRule(t testing.TB, line string) api.Line {
	t.Helper()
	c := parsed(t, ground+line)
	if len(c.Rules) != 1 {
		t.Fatalf("%q: rules %v", line, c.Rules)
	}
	return c.Rules[0]
}

// same holds configurations against one another by their printed forms, in which empty lists and nil are alike.
func same(a, b api.Conf) bool {
	return fmt.Sprintf("%#v", lists(a)) == fmt.Sprintf("%#v", lists(b))
}

func lists(c api.Conf) api.Conf {
	return api.Conf{
		Zones:  append([]api.Zone{}, c.Zones...),
		Ifaces: append([]api.Iface{}, c.Ifaces...),
		Paths:  append([]api.Path{}, c.Paths...),
		Rules:  append([]api.Line{}, c.Rules...),
	}
}

// P8.1: the chapter's example, field by field.
func TestExample(t *testing.T) {
	want := api.Conf{
		Zones:  []api.Zone{{Name: "lan", Trust: 90}, {Name: "wan", Trust: 10}},
		Ifaces: []api.Iface{{Num: 1, Zone: "lan"}},
		Paths:  []api.Path{{Net: api.Prefix{Addr: api.Addr{Fam: 4, Lo: 10 << 24}, Bits: 8}, Num: 1}},
		Rules: []api.Line{
			{From: "wan", To: "lan", Dst: api.Prefix{Addr: api.Addr{Fam: 4, Lo: 10<<24 + 2}, Bits: 32}, Proto: 6, Sport: all, Dport: api.Ports{Lo: 80, Hi: 80}, Action: 1},
			{From: "lan", To: "any", Sport: all, Dport: all, Action: 1},
		},
	}
	if c := parsed(t, example); !same(c, want) {
		t.Errorf("%v, want %v", c, want)
	}
	text := "zone lan 90\nzone wan 10\niface 1 lan\npath 10.0.0.0/8 1\nrule wan lan dst 10.0.0.2/32 proto tcp dport 80 allow\nrule lan any allow\n"
	if s := conf.Show(want); s != text {
		t.Errorf("Show: %q", s)
	}
	if !conf.Right(want) {
		t.Error("the example may not be")
	}
}

// P8.1: texts without a line are configurations without anything.
func TestNothing(t *testing.T) {
	for _, s := range []string{"", "\n", "\n\n\n", " ", "\t", " \t \n\t", "#", "# zone", "#\n#\n", " # zone a", "##", "\n#x"} {
		if c := parsed(t, s); !same(c, api.Conf{}) {
			t.Errorf("Parse(%.300q): %v", s, c)
		}
	}
}

// P8.1: a line ends with a byte 10, or with the text; all lines count, also those without words.
func TestLineNumbers(t *testing.T) {
	for _, c := range []struct {
		s  string
		at int
	}{
		{"x", 1}, {"x\n", 1}, {"x\nx", 1}, {"\nx", 2}, {"\nx\n", 2}, {"\n\n\nx\n\n", 4}, {"zone a 1\nx", 2}, {"zone a 1\nx\n", 2},
		{"# x\nx", 2}, {"   \n\t\nx", 3}, {"zone a 1\n\n# y\nzone b 2\n x # z\n", 5}, {strings.Repeat("\n", 30000) + "x", 30001}, {strings.Repeat("#\n", 1000) + "x", 1001},
		{"zone a 1\r\nx", 1}, {"zone a 1\rx", 1},
	} {
		faulty(t, c.s, api.ErrTok, c.at)
	}
	if c := parsed(t, "zone a 1\nzone b 2"); !same(c, parsed(t, "zone a 1\nzone b 2\n")) || len(c.Zones) != 2 {
		t.Error(c)
	}
	faulty(t, "zone a\n1", api.ErrTok, 1)
	faulty(t, "zone\na 1", api.ErrTok, 1)
}

// P8.1: {ErrLen, 0} of a text of more than 2^15 bytes, whatever else is wrong; one of just that many is read.
func TestLength(t *testing.T) {
	const most = 1 << 15
	for _, end := range []string{"#", " ", "\t", "\n", "#\n", " \n\n", "#zone "} {
		fill := func(n int) string { return "zone a 1\n" + strings.Repeat(end, n)[:n-9] }
		if c := parsed(t, fill(most)); len(c.Zones) != 1 {
			t.Errorf("%q: %v", end, c)
		}
		parsed(t, fill(most-1))
		faulty(t, fill(most+1), api.ErrLen, 0)
		faulty(t, "x"+fill(most), api.ErrLen, 0)
		faulty(t, "x"+fill(most-1), api.ErrTok, 1)
	}
	faulty(t, strings.Repeat("x", most), api.ErrTok, 1)
	faulty(t, strings.Repeat("x", most+1), api.ErrLen, 0)
	faulty(t, strings.Repeat("\n", most-1)+"x", api.ErrTok, most)
	faulty(t, strings.Repeat("\n", 1<<20), api.ErrLen, 0)
	faulty(t, "zone a "+strings.Repeat("1", most-7), api.ErrArg, 1)
	faulty(t, "zone "+strings.Repeat("a", most-5), api.ErrTok, 1)
}

// P8.1: what stands behind a # does not count, wherever that is in a line.
func TestRemarks(t *testing.T) {
	want := parsed(t, "zone lan 90\nzone wan 10")
	for _, s := range []string{
		"#\nzone lan 90\nzone wan 10", "zone lan 90#\nzone wan 10", "zone lan 90 #\nzone wan 10#x", "zone lan 90# 7\nzone wan 10 # # #",
		"zone lan 90#0 x\n#zone lan 90\nzone wan 10", "# #\nzone lan 90\t#\x00\xff\r\n \t# zone\nzone wan 10\t\t#zone", "zone lan 90##\nzone wan 10",
	} {
		if c := parsed(t, s); !same(c, want) {
			t.Errorf("Parse(%.300q): %v", s, c)
		}
	}
	faulty(t, "zone la#n 90", api.ErrTok, 1)
	faulty(t, "zone # lan 90", api.ErrTok, 1)
	faulty(t, "zone#", api.ErrTok, 1)
	faulty(t, "zo#ne lan 90", api.ErrTok, 1)
	if c := parsed(t, "zone lan 9#0"); c.Zones[0] != (api.Zone{Name: "lan", Trust: 9}) {
		t.Error(c)
	}
	grounded(t, "rule any any proto tcp dport 80#0 allow", api.ErrTok)
	grounded(t, "rule any any proto tcp dport 80 allow#help", api.OK)
}

// P8.1: words are parted by the bytes 32 and 9, by as many as one likes, and by no others.
func TestBlanks(t *testing.T) {
	want := parsed(t, "zone lan 90")
	for _, s := range []string{" zone lan 90", "\tzone lan 90", "zone\tlan\t90", "zone  lan \t 90", "zone lan 90 ", "zone lan 90\t", " \t zone\t lan \t\t90\t \t"} {
		if c := parsed(t, s); !same(c, want) {
			t.Errorf("Parse(%.300q): %v", s, c)
		}
	}
	for b := range 256 {
		x := string([]byte{byte(b)})
		switch b {
		case 32, 9, '\n', '#':
			continue
		}
		faulty(t, "zone"+x+"lan 90", api.ErrTok, 1)
		faulty(t, "zone lan"+x+"90", api.ErrTok, 1)
		faulty(t, x+" zone lan 90", api.ErrTok, 1)
		faulty(t, x+"zone lan 90", api.ErrTok, 1)
		faulty(t, "zone lan 90 "+x, api.ErrTok, 1)
		faulty(t, x, api.ErrTok, 1)
		if b < '0' || b > '9' {
			faulty(t, "zone lan 90"+x, api.ErrTok, 1)
		}
	}
	for _, x := range []string{"\u00a0", "\u0085", "\u2003", "\u2028", "\ufeff", "\u3000", "\r", "\r\n"} {
		faulty(t, "zone"+x+"lan 90", api.ErrTok, 1)
		faulty(t, "zone lan 90"+x, api.ErrTok, 1)
		faulty(t, "zone lan"+x+" 90", api.ErrTok, 1)
	}
}

// P8.1: the first word of a line.
func TestKinds(t *testing.T) {
	for _, w := range []string{"x", "Zone", "ZONE", "zon", "zones", "Iface", "if", "paths", "Path", "Rule", "rules", "any", "allow", "0", "-", "lan", "\"zone\"", "zone;", "\xff", "zone\x00"} {
		grounded(t, w, api.ErrTok)
		grounded(t, w+" new 5", api.ErrTok)
		grounded(t, w+" 7 lan", api.ErrTok)
		grounded(t, w+" 11.0.0.0/8 1", api.ErrTok)
		grounded(t, w+" any any allow", api.ErrTok)
	}
	for _, line := range []string{"zone new 5", "iface 7 lan", "path 11.0.0.0/8 1", "rule any any allow"} {
		grounded(t, line, api.OK)
	}
}

// P8.1: how many words a line has: each line cut behind each of its words, and with one more.
func TestMissingAndMore(t *testing.T) {
	for _, line := range []string{
		"zone new 5", "iface 7 lan", "path 11.0.0.0/8 1", "rule lan wan allow", "rule any any deny", "rule lan wan src 10.0.0.1 allow", "rule lan wan proto tcp allow help ftp",
		"rule lan any src 10.0.0.1 dst 10.0.0.2 proto udp sport 1 dport 2-3 allow help sip",
	} {
		words := strings.Fields(line)
		for n := 1; n < len(words); n++ {
			want := api.ErrTok
			if words[n] == "help" {
				want = api.OK
			}
			grounded(t, strings.Join(words[:n], " "), want)
		}
		for _, more := range []string{"x", "0", "allow", "deny", "help", "any", "src", "zone", "80", "10.0.0.1", "help ftp ftp", "\x00"} {
			if more != "help" || !strings.HasSuffix(line, "allow") && !strings.HasSuffix(line, "deny") {
				grounded(t, line+" "+more, api.ErrTok)
			}
		}
	}
}

// names are such as may be, and such as may not.
var goodNames = []string{"a", "z", "A", "Z", "Any", "ANY", "anyy", "an", "a0", "a9", "a-", "a_", "a-_-_09azAZ", "zone", "rule", "allow", "deny", "help", "src", "abcdefghijklmnop", "A-_4567890123456", "any-", "tcp"}

var badNames = []string{
	"any", "0", "0a", "9lan", "-", "-a", "_", "_a", "abcdefghijklmnopq", "A-_45678901234567", strings.Repeat("a", 1000), "a.b", "a+", "a/b", "a:", "a!", "a@", "a[", "a`", "a{", "a\x00", "a\x7f", "a\x80", "a\xff", "\xff",
	"\xe9", "é", "aé", "α", "ａ", "a\u00a0", "a\r", "\ra", "\u212a", "\u017f", "a^", "^", "@a", "[a", "`a", "{a", "a\\", "a,", "a*", "abcdefghijklmnoé",
}

// P8.1: NAME, at each place where one stands.
func TestNames(t *testing.T) {
	for _, n := range goodNames {
		c := parsed(t, "zone "+n+" 0\niface 3 "+n+"\nrule "+n+" "+n+" deny")
		if c.Zones[0].Name != n || c.Ifaces[0].Zone != n || c.Rules[0].From != n || c.Rules[0].To != n {
			t.Errorf("%q: %v", n, c)
		}
		grounded(t, "iface 7 "+n, api.ErrNone)
		grounded(t, "rule "+n+" any allow", api.ErrNone)
		grounded(t, "rule any "+n+" allow", api.ErrNone)
	}
	for _, n := range badNames {
		grounded(t, "zone "+n+" 0", api.ErrTok)
		grounded(t, "iface 7 "+n, api.ErrTok)
		if n != "any" {
			grounded(t, "rule "+n+" any allow", api.ErrTok)
			grounded(t, "rule any "+n+" allow", api.ErrTok)
		}
	}
	for b := range 256 {
		x := byte(b)
		if x == ' ' || x == '\t' || x == '\n' || x == '#' {
			continue
		}
		letter := x >= 'a' && x <= 'z' || x >= 'A' && x <= 'Z'
		for _, c := range []struct {
			name  string
			right bool
		}{
			{string([]byte{x}), letter}, {string([]byte{x, 'a'}), letter},
			{string([]byte{'a', x}), letter || x >= '0' && x <= '9' || x == '-' || x == '_'},
		} {
			want := api.ErrTok
			if c.right {
				want = api.OK
			}
			grounded(t, "zone "+c.name+" 0", want)
		}
	}
}

// noNumbers are words that are no numbers at all; tooLarge are numbers above every bound.
var noNumbers = []string{"x", "-1", "+1", "00", "01", "007", "065535", "0x10", "1e3", "1.0", "1_0", "-0", "+0", "-", "a1", "1a", "٣", "１", "1\x00", "00000000000000000000000", "099999999999999999999", "\xff", "1é", "/", ":", "1/", "1:", "1,", "lan", "any"}

var tooLarge = []string{"65536", "65537", "99999", "100000", "2147483648", "4294967296", "4294967297", "9223372036854775807", "9223372036854775808", "18446744073709551615", "18446744073709551616", "18446744073709551617", "99999999999999999999", "100000000000000000000000000000000", strings.Repeat("9", 500)}

// P8.1: TRUST.
func TestTrust(t *testing.T) {
	for n := range 101 {
		if c := parsed(t, fmt.Sprintf("zone a %d", n)); c.Zones[0].Trust != n {
			t.Error(n, c)
		}
	}
	for _, w := range noNumbers {
		faulty(t, "zone a "+w, api.ErrTok, 1)
	}
	for _, w := range append([]string{"101", "102", "110", "200", "1000", "65535"}, tooLarge...) {
		faulty(t, "zone a "+w, api.ErrArg, 1)
	}
}

// P8.1: NUM of an iface and of a path, at which what is no number is told first, then what is too large, then what is not there.
func TestNums(t *testing.T) {
	for _, n := range []int{0, 1, 9, 10, 99, 100, 255, 256, 9999, 10000, 65534, 65535} {
		c := parsed(t, fmt.Sprintf("zone a 0\niface %d a\npath ::/0 %d", n, n))
		if c.Ifaces[0].Num != n || c.Paths[0].Num != n {
			t.Error(n, c)
		}
	}
	for _, w := range noNumbers {
		grounded(t, "iface "+w+" lan", api.ErrTok)
		grounded(t, "path 11.0.0.0/8 "+w, api.ErrTok)
	}
	for _, w := range tooLarge {
		grounded(t, "iface "+w+" lan", api.ErrArg)
		grounded(t, "path 11.0.0.0/8 "+w, api.ErrArg)
	}
	for _, w := range []string{"3", "10", "65535"} {
		grounded(t, "path 11.0.0.0/8 "+w, api.ErrNone)
	}
}

// P8.1: PREFIX, in a path and in a rule; it stands as layer 2 reads it.
func TestPrefixes(t *testing.T) {
	for _, w := range []string{"11.0.0.0/8", "11.0.0.1", "11.0.0.1/32", "128.0.0.0/1", "::", "::/0", "::1", "FE80::/10", "2001:0DB8::1/128", "1:2:3:4:5:6:7:8", "255.255.255.255", "0.0.0.0"} {
		c := parsed(t, ground+"path "+w+" 2\nrule any any src "+w+" deny\nrule any any dst "+w+" deny")
		if p := net(t, w); c.Paths[3] != (api.Path{Net: p, Num: 2}) || c.Rules[0].Src != p || c.Rules[1].Dst != p || c.Rules[0].Dst != (api.Prefix{}) || c.Rules[1].Src != (api.Prefix{}) {
			t.Errorf("%s: %v", w, c)
		}
	}
	for _, w := range []string{
		"x", "any", "11", "11.0.0", "11.0.0.0.0", "11.0.0.0/33", "11.0.0.0/99999999999999999999", "11.0.0.0/", "/8", "/", "11.0.0.0/08", "11.0.0.0/+8", "11.0.0.0/-1", "11.1.0.0/8", "11.0.0.1/31", "256.0.0.0/8", "011.0.0.0/8", "11.0.0.0/8/8",
		":::", "1::2::3", "1:2:3:4:5:6:7", "1:2:3:4:5:6:7:8:9", "::/129", "::1/127", "2001:db9::/31", "g::", "12345::", "::ffff:1.2.3.4", "fe80::1%1", "[::]", "0", "0/0", "lan", "\xff", "١.0.0.0",
	} {
		grounded(t, "path "+w+" 1", api.ErrTok)
		grounded(t, "rule any any src "+w+" allow", api.ErrTok)
		grounded(t, "rule any any dst "+w+" allow", api.ErrTok)
		grounded(t, "rule any any src ::1 dst "+w+" allow", api.ErrTok)
	}
}

// P8.1: PROTO, ACTION and HELPER.
func TestTerms(t *testing.T) {
	for w, n := range map[string]int{"tcp": 6, "udp": 17, "icmp": 1, "icmp6": 58} {
		if l := lastRule(t, "rule any any proto "+w+" deny"); l != (api.Line{From: "any", To: "any", Proto: n, Sport: all, Dport: all}) {
			t.Error(w, l)
		}
	}
	for _, w := range []string{"x", "TCP", "Tcp", "tc", "tcpp", "6", "17", "1", "58", "0", "icmp4", "icmpv6", "icmp-6", "any", "ip", "allow", "sctp", "\xff"} {
		grounded(t, "rule any any proto "+w+" deny", api.ErrTok)
	}
	for w, n := range map[string]int{"deny": 0, "allow": 1} {
		if l := lastRule(t, "rule any any "+w); l != (api.Line{From: "any", To: "any", Sport: all, Dport: all, Action: n}) {
			t.Error(w, l)
		}
	}
	for _, w := range []string{"x", "Allow", "DENY", "allowed", "den", "drop", "pass", "0", "1", "any", "help", "ftp", "tcp", "80", "\xff"} {
		grounded(t, "rule any any "+w, api.ErrTok)
		grounded(t, "rule any any proto tcp "+w, api.ErrTok)
	}
	for w, c := range map[string]struct {
		n     int
		proto string
	}{"ftp": {1, "tcp"}, "tftp": {2, "udp"}, "sip": {3, "udp"}} {
		if l := lastRule(t, "rule any any proto "+c.proto+" allow help "+w); l.Help != c.n || l.Action != 1 {
			t.Error(w, l)
		}
	}
	for _, w := range []string{"x", "FTP", "Sip", "ftps", "sips", "tft", "0", "1", "2", "3", "none", "allow", "help", "any", "\xff"} {
		grounded(t, "rule any any proto tcp allow help "+w, api.ErrTok)
		grounded(t, "rule any any proto udp allow help "+w, api.ErrTok)
		grounded(t, "rule any any deny help "+w, api.ErrTok)
	}
}

// P8.1: PORTS, of both sides.
func TestPorts(t *testing.T) {
	good := map[string]api.Ports{
		"0": {Lo: 0, Hi: 0}, "1": {Lo: 1, Hi: 1}, "80": {Lo: 80, Hi: 80}, "65535": {Lo: 65535, Hi: 65535}, "0-0": {Lo: 0, Hi: 0}, "80-80": {Lo: 80, Hi: 80}, "65535-65535": {Lo: 65535, Hi: 65535},
		"0-1": {Lo: 0, Hi: 1}, "0-65535": {Lo: 0, Hi: 65535}, "1-65535": {Lo: 1, Hi: 65535}, "0-65534": {Lo: 0, Hi: 65534}, "65534-65535": {Lo: 65534, Hi: 65535}, "9-10": {Lo: 9, Hi: 10}, "80-443": {Lo: 80, Hi: 443},
	}
	bad := map[string]api.Errno{"1-0": api.ErrArg, "65535-0": api.ErrArg, "10-9": api.ErrArg, "443-80": api.ErrArg, "65535-65534": api.ErrArg}
	for _, w := range append([]string{"--", "1--2", "1-2-3", "1-2-", "-1-2", "-", "0-", "-0", "80-", "-80", "1:2", "1,2", "1..2", "1–2", "1−2"}, noNumbers...) {
		bad[w], bad["5-"+w], bad[w+"-70000"], bad["70000-"+w], bad[w+"-"+w] = api.ErrTok, api.ErrTok, api.ErrTok, api.ErrTok, api.ErrTok
	}
	for _, w := range []string{"1 -2", "1- 2", "1 - 2"} {
		bad[w] = api.ErrTok
	}
	for _, w := range tooLarge {
		bad[w], bad["0-"+w], bad[w+"-"+w], bad[w+"-5"], bad[w+"-65535"] = api.ErrArg, api.ErrArg, api.ErrArg, api.ErrArg, api.ErrArg
		bad[w+"-"], bad["-"+w], bad[w+"-x"], bad["x-"+w], bad["0"+w], bad[w+"-00"] = api.ErrTok, api.ErrTok, api.ErrTok, api.ErrTok, api.ErrTok, api.ErrTok
	}
	for _, proto := range []string{"tcp", "udp"} {
		head := "rule any any proto " + proto
		for w, p := range good {
			if l := lastRule(t, head+" sport "+w+" deny"); l.Sport != p || l.Dport != all {
				t.Error(w, l)
			}
			if l := lastRule(t, head+" dport "+w+" deny"); l.Sport != all || l.Dport != p {
				t.Error(w, l)
			}
			if l := lastRule(t, head+" sport 7 dport "+w+" deny"); l.Sport != (api.Ports{Lo: 7, Hi: 7}) || l.Dport != p {
				t.Error(w, l)
			}
		}
		for w, e := range bad {
			grounded(t, head+" sport "+w+" deny", e)
			grounded(t, head+" dport "+w+" deny", e)
			grounded(t, head+" sport 5 dport "+w+" deny", e)
		}
	}
}

// P8.1: names of zones, numbers of ifaces and prefixes of paths that are there already; rules may be there as often as one likes.
func TestThere(t *testing.T) {
	for _, line := range []string{
		"zone lan 90", "zone lan 5", "zone wan 10", "zone dmz 0", "iface 1 lan", "iface 1 wan", "iface 2 dmz", "iface 0 lan", "path 10.0.0.0/8 1", "path 10.0.0.0/8 0", "path 0.0.0.0/0 2", "path 2001:DB8::/32 0", "path 2001:0db8:0:0::/32 1",
	} {
		grounded(t, line, api.ErrThere)
	}
	for _, line := range []string{
		"zone Lan 90", "zone la 90", "zone lann 90", "iface 10 lan", "iface 3 lan", "path 10.0.0.0/9 1", "path 10.0.0.0 1", "path ::/0 1", "path 2001:db8::/33 1", "path 10.0.0.0/7 1", "zone new 90", "rule lan wan allow\nrule lan wan allow\nrule lan wan deny",
	} {
		grounded(t, line, api.OK)
	}
	faulty(t, "zone a 1\niface 1 a\npath 10.0.0.1 1\npath 10.0.0.1/32 1", api.ErrThere, 4)
	faulty(t, "zone a 1\niface 1 a\npath 10.0.0.1/32 1\npath 10.0.0.1 1", api.ErrThere, 4)
}

// P8.1: zones, and numbers of ifaces, that no line ahead tells; one behind is none.
func TestNone(t *testing.T) {
	for _, line := range []string{"iface 7 new", "iface 7 Lan", "iface 7 la", "rule new any allow", "rule any new allow", "rule lan new deny", "rule Any any deny", "rule any ANY deny", "path 11.0.0.0/8 7", "path ::/0 10", "path ::/0 65535"} {
		grounded(t, line, api.ErrNone)
	}
	faulty(t, "iface 1 lan\nzone lan 5", api.ErrNone, 1)
	faulty(t, "zone lan 5\npath ::/0 1\niface 1 lan", api.ErrNone, 2)
	faulty(t, "rule lan any allow\nzone lan 5", api.ErrNone, 1)
	faulty(t, "zone wan 5\nrule any lan allow\nzone lan 5", api.ErrNone, 2)
	parsed(t, "rule any any allow\nzone lan 5\nrule lan any allow\niface 1 lan\nzone wan 5\npath ::/0 1\nrule wan lan deny\niface 2 wan")
}

// many is a text of so many lines of one kind, behind what they need.
func many(kind string, n int) string {
	var b strings.Builder
	b.WriteString(map[string]string{"zone": "", "iface": "zone a 1\n", "path": "zone a 1\niface 9 a\n", "rule": "zone a 1\n"}[kind])
	for i := range n {
		switch kind {
		case "zone":
			fmt.Fprintf(&b, "zone z%d 1\n", i)
		case "iface":
			fmt.Fprintf(&b, "iface %d a\n", i)
		case "path":
			fmt.Fprintf(&b, "path 10.0.%d.0/24 9\n", i)
		default:
			b.WriteString("rule a any allow\n")
		}
	}
	return b.String()
}

// P8.1: as many zones, ifaces, paths and rules as may be, and one more; any other fault of that line is told ahead.
func TestMany(t *testing.T) {
	for _, c := range []struct {
		kind        string
		most, ahead int
		one         string
		wrong       map[string]api.Errno
	}{
		{"zone", 16, 0, "zone more 0", map[string]api.Errno{"zone z3 0": api.ErrThere, "zone more 101": api.ErrArg, "zone more": api.ErrTok, "zone more 0 0": api.ErrTok, "zone any 0": api.ErrTok}},
		{"iface", 32, 1, "iface 77 a", map[string]api.Errno{"iface 5 a": api.ErrThere, "iface 70000 a": api.ErrArg, "iface 77 b": api.ErrNone, "iface 77 a x": api.ErrTok, "iface 77": api.ErrTok}},
		{"path", 64, 2, "path ::/0 9", map[string]api.Errno{"path 10.0.3.0/24 9": api.ErrThere, "path ::/0 70000": api.ErrArg, "path ::/0 8": api.ErrNone, "path ::/0 9 x": api.ErrTok, "path ::/0": api.ErrTok}},
		{"rule", 64, 1, "rule any a deny", map[string]api.Errno{"rule any b deny": api.ErrNone, "rule any a deny x": api.ErrTok, "rule any a": api.ErrTok, "rule any a proto tcp dport 2-1 deny": api.ErrArg, "rule any a dport 2 deny": api.ErrArg, "rule any a deny help ftp": api.ErrArg}},
	} {
		got := parsed(t, many(c.kind, c.most))
		if n := len(got.Zones) + len(got.Ifaces) + len(got.Paths) + len(got.Rules); n != c.ahead+c.most || !conf.Right(got) {
			t.Errorf("%s: %d lines", c.kind, n)
		}
		parsed(t, many(c.kind, c.most-1)+c.one)
		faulty(t, many(c.kind, c.most)+c.one, api.ErrMany, c.ahead+c.most+1)
		faulty(t, many(c.kind, c.most)+"\n# more\n"+c.one+"\n"+c.one, api.ErrMany, c.ahead+c.most+3)
		for line, e := range c.wrong {
			faulty(t, many(c.kind, c.most)+line, e, c.ahead+c.most+1)
		}
	}
	full := many("zone", 16) + "iface 9 z0\n" + strings.TrimPrefix(many("path", 64), "zone a 1\niface 9 a\n") + strings.ReplaceAll(strings.TrimPrefix(many("rule", 64), "zone a 1\n"), " a ", " z7 ")
	for i := 100; i < 131; i++ {
		full += fmt.Sprintf("iface %d z%d\n", i, i%16)
	}
	c := parsed(t, full)
	if len(c.Zones) != 16 || len(c.Ifaces) != 32 || len(c.Paths) != 64 || len(c.Rules) != 64 || !conf.Right(c) || !same(parsed(t, conf.Show(c)), c) {
		t.Error(c)
	}
}

// R4: what is answered is the caller's, and what is handed in is neither written into nor kept.
func TestShares(t *testing.T) {
	a, b := parsed(t, ground+"rule lan any allow"), parsed(t, ground+"rule lan any allow")
	kept := lists(b)
	scribble(a)
	if !same(b, kept) || !same(parsed(t, ground+"rule lan any allow"), kept) {
		t.Fatal("two answers share room")
	}
	spare := roomy(b)
	text := conf.Show(spare)
	if !conf.Right(spare) || !conf.Same(spare, b) || text == "" {
		t.Fatal("a list's room counts")
	}
	untouched(t, spare)
	scribble(spare)
	if text != conf.Show(b) || !same(b, kept) {
		t.Fatal("a text was turned")
	}
	bytes := []byte(ground)
	c := parsed(t, string(bytes))
	for i := range bytes {
		bytes[i] = 'x'
	}
	if !same(c, parsed(t, ground)) {
		t.Fatal(c)
	}
}

// roomy is a configuration whose lists have one element more behind their ends.
func roomy(c api.Conf) api.Conf {
	c = lists(c)
	c.Zones = append(c.Zones, api.Zone{Name: "spare"})[:len(c.Zones)]
	c.Ifaces = append(c.Ifaces, api.Iface{Zone: "spare"})[:len(c.Ifaces)]
	c.Paths = append(c.Paths, api.Path{Num: -7})[:len(c.Paths)]
	c.Rules = append(c.Rules, api.Line{From: "spare"})[:len(c.Rules)]
	return c
}

func untouched(t *testing.T, c api.Conf) {
	t.Helper()
	n := []int{len(c.Zones), len(c.Ifaces), len(c.Paths), len(c.Rules)}
	if c.Zones[:n[0]+1][n[0]].Name != "spare" || c.Ifaces[:n[1]+1][n[1]].Zone != "spare" || c.Paths[:n[2]+1][n[2]].Num != -7 || c.Rules[:n[3]+1][n[3]].From != "spare" {
		t.Error("the room behind a list was written into")
	}
}

// scribble writes over all lists of a configuration, and over the room behind their ends.
func scribble(c api.Conf) {
	for i := range c.Zones[:cap(c.Zones)] {
		c.Zones[:cap(c.Zones)][i] = api.Zone{Name: "!", Trust: -1}
	}
	for i := range c.Ifaces[:cap(c.Ifaces)] {
		c.Ifaces[:cap(c.Ifaces)][i] = api.Iface{Num: -1, Zone: "!"}
	}
	for i := range c.Paths[:cap(c.Paths)] {
		c.Paths[:cap(c.Paths)][i] = api.Path{Num: -1}
	}
	for i := range c.Rules[:cap(c.Rules)] {
		c.Rules[:cap(c.Rules)][i] = api.Line{From: "!", Help: -1}
	}
}

// R3: a text that was refused leaves nothing behind for the next one.
func TestAlone(t *testing.T) {
	want := parsed(t, example)
	for _, s := range []string{"zone lan 1\nzone lan 2", "zone lan 90\niface 1 lan\nx", many("rule", 65), strings.Repeat(" ", 40000)} {
		if _, f := conf.Parse(s); f.Why == api.OK {
			t.Fatal(s)
		}
		if c := parsed(t, example); !same(c, want) {
			t.Fatal(c)
		}
	}
	if !slices.Equal(want.Zones, []api.Zone{{Name: "lan", Trust: 90}, {Name: "wan", Trust: 10}}) {
		t.Error(want.Zones)
	}
}
