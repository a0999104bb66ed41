package conf_test

import (
	"fmt"
	"slices"
	"strings"
	"testing"

	"stockade/api"
)

// options are those of a rule that may stand ahead of its ACTION, in their order, each with a word that may be.
var options = [][2]string{{"src", "10.0.0.0/8"}, {"dst", "11.0.0.1"}, {"proto", "udp"}, {"sport", "7"}, {"dport", "8-9"}}

// optioned is a rule's line with the options whose bits are set; the sixth is help.
func optioned(bits int, action string) string {
	words := []string{"rule lan any"}
	for i, o := range options {
		if bits>>i&1 == 1 {
			words = append(words, o[0], o[1])
		}
	}
	words = append(words, action)
	if bits>>5&1 == 1 {
		words = append(words, "help sip")
	}
	return strings.Join(words, " ")
}

// P8.1: each set of options, there and not there, behind allow and deny.
func TestOptions(t *testing.T) {
	for bits := range 64 {
		for action, word := range []string{"deny", "allow"} {
			line := optioned(bits, word)
			has := func(i int) bool { return bits>>i&1 == 1 }
			if (has(3) || has(4)) && !has(2) || has(5) && (!has(2) || word == "deny") {
				grounded(t, line, api.ErrArg)
				continue
			}
			want := api.Line{From: "lan", To: "any", Sport: all, Dport: all, Action: action}
			if has(0) {
				want.Src = api.Prefix{Addr: api.Addr{Fam: 4, Lo: 10 << 24}, Bits: 8}
			}
			if has(1) {
				want.Dst = api.Prefix{Addr: api.Addr{Fam: 4, Lo: 11<<24 + 1}, Bits: 32}
			}
			if has(2) {
				want.Proto = 17
			}
			if has(3) {
				want.Sport = api.Ports{Lo: 7, Hi: 7}
			}
			if has(4) {
				want.Dport = api.Ports{Lo: 8, Hi: 9}
			}
			if has(5) {
				want.Help = 3
			}
			if l := lastRule(t, line); l != want {
				t.Errorf("%s: %v, want %v", line, l, want)
			}
		}
	}
}

// P8.1: an option twice, in another order, behind the ACTION, and as the last word of a line.
func TestOptionsOutOfPlace(t *testing.T) {
	for i, a := range options {
		first := a[0] + " " + a[1]
		grounded(t, "rule any any "+first+" "+first+" allow", api.ErrTok)
		grounded(t, "rule any any "+a[0], api.ErrTok)
		grounded(t, "rule any any "+a[0]+" allow", api.ErrTok)
		grounded(t, "rule any any "+a[0]+" "+first+" allow", api.ErrTok)
		grounded(t, "rule any any "+first, api.ErrTok)
		grounded(t, "rule any "+first+" allow", api.ErrNone)
		grounded(t, "rule "+first+" any any allow", api.ErrNone)
		grounded(t, "rule any any allow "+first, api.ErrTok)
		grounded(t, "rule any any proto tcp allow help "+a[0], api.ErrTok)
		grounded(t, "rule any any proto tcp allow "+first+" help ftp", api.ErrTok)
		grounded(t, "rule any any "+strings.ToUpper(a[0])+" "+a[1]+" allow", api.ErrTok)
		for _, b := range options[:i] {
			grounded(t, "rule any any "+first+" "+b[0]+" "+b[1]+" allow", api.ErrTok)
			grounded(t, "rule any any "+b[0]+" "+b[1]+" "+first+" "+b[0]+" "+b[1]+" allow", api.ErrTok)
		}
	}
	for _, line := range []string{
		"rule any any proto tcp allow help", "rule any any proto tcp help ftp allow", "rule any any help ftp proto tcp allow", "rule any any proto tcp allow help ftp help ftp", "rule any any proto tcp allow ftp", "rule any any allow allow",
		"rule any any allow deny", "rule any any deny allow", "rule any any proto tcp Help ftp", "rule any any deny help", "rule help ftp any allow", "rule any any help", "rule any any help ftp", "rule any any proto tcp allow help allow",
	} {
		want := api.ErrTok
		if strings.HasPrefix(line, "rule help") {
			want = api.ErrNone
		}
		grounded(t, line, want)
	}
}

// broken are lines that break a rule of the text's last sentences, and nothing else.
func broken() []string {
	var lines []string
	for _, ports := range []string{"sport 7", "dport 7", "sport 7 dport 8", "sport 0-65535", "dport 0-65535", "sport 0-65535 dport 0-65535", "sport 0", "dport 65535"} {
		for _, head := range []string{"", "proto icmp ", "proto icmp6 ", "src 10.0.0.0/8 ", "dst ::1 "} {
			lines = append(lines, "rule any any "+head+ports+" allow", "rule any any "+head+ports+" deny")
		}
	}
	for help, needs := range map[string]string{"ftp": "proto tcp ", "tftp": "proto udp ", "sip": "proto udp "} {
		for _, proto := range []string{"", "proto tcp ", "proto udp ", "proto icmp ", "proto icmp6 "} {
			lines = append(lines, "rule any any "+proto+"deny help "+help)
			if proto != needs {
				lines = append(lines, "rule any any "+proto+"allow help "+help)
			}
		}
	}
	for _, nets := range [][2]string{{"10.0.0.0/8", "::/0"}, {"::1", "10.0.0.1"}, {"0.0.0.0/0", "::/0"}, {"::", "0.0.0.0"}} {
		for _, proto := range []string{"", "proto tcp ", "proto udp dport 5 ", "proto icmp ", "proto icmp6 "} {
			lines = append(lines, fmt.Sprintf("rule any any src %s dst %s %sallow", nets[0], nets[1], proto))
		}
	}
	for proto, nets := range map[string][]string{"icmp": {"::/0", "fe80::1"}, "icmp6": {"0.0.0.0/0", "10.0.0.1"}} {
		for _, n := range nets {
			lines = append(lines, fmt.Sprintf("rule any any src %s proto %s allow", n, proto), fmt.Sprintf("rule any any dst %s proto %s deny", n, proto), fmt.Sprintf("rule any any src %s dst %s proto %s deny", n, n, proto))
		}
	}
	slices.Sort(lines)
	return slices.Compact(lines)
}

// P8.1: each of these rules broken, alone, and with another fault of the same line, which is told ahead.
func TestBroken(t *testing.T) {
	lines := broken()
	if len(lines) < 100 {
		t.Fatal(len(lines))
	}
	for _, line := range lines {
		grounded(t, line, api.ErrArg)
		grounded(t, line+" # x", api.ErrArg)
		grounded(t, line+" x", api.ErrTok)
		grounded(t, line+" help", api.ErrTok)
		grounded(t, strings.Replace(line, "any any", "new any", 1), api.ErrNone)
		grounded(t, strings.Replace(line, "any any", "any new", 1), api.ErrNone)
		grounded(t, strings.Replace(line, "any any", "any 0", 1), api.ErrTok)
		grounded(t, strings.Replace(strings.Replace(line, "allow", "x", 1), "deny", "x", 1), api.ErrTok)
		grounded(t, strings.Replace(strings.Replace(line, " allow", "", 1), " deny", "", 1), api.ErrTok)
		faulty(t, many("rule", 64)+line, api.ErrArg, 66)
		if strings.Contains(line, "help") {
			grounded(t, line+"x", api.ErrTok)
			grounded(t, line+" help ftp", api.ErrTok)
		}
	}
}

// P8.1: what comes near to breaking these rules, and does not.
func TestUnbroken(t *testing.T) {
	for _, line := range []string{
		"proto tcp sport 7 allow", "proto udp dport 7 deny", "proto tcp sport 0-65535 dport 0-65535 allow", "proto tcp allow help ftp", "proto udp allow help tftp", "proto udp allow help sip", "src ::1 proto tcp dport 21 allow help ftp",
		"src 10.0.0.1 dst 11.0.0.0/8 allow", "src ::1 dst fe80::/10 deny", "src 10.0.0.1 dst 11.0.0.1 proto icmp allow", "src ::1 dst ::2 proto icmp6 allow", "proto icmp allow", "proto icmp6 deny", "dst 10.0.0.1 proto icmp deny", "src ::/0 proto icmp6 deny",
		"src ::1 dst ::2 proto udp sport 1-2 dport 3-4 allow help sip", "src 0.0.0.0/0 proto icmp allow", "dst ::/0 proto icmp6 allow",
	} {
		grounded(t, "rule any any "+line, api.OK)
	}
}

// place is a word of a line, and words that are wrong in its place, each with its error there.
type place struct {
	word  string
	wrong map[string]api.Errno
}

func places(line string, wrong ...map[string]api.Errno) []place {
	var all []place
	for i, w := range strings.Fields(line) {
		all = append(all, place{w, wrong[i]})
	}
	return all
}

var (
	wrongKind   = map[string]api.Errno{"x": api.ErrTok}
	wrongNew    = map[string]api.Errno{"any": api.ErrTok, "9": api.ErrTok, "lan": api.ErrThere}
	wrongTrust  = map[string]api.Errno{"x": api.ErrTok, "05": api.ErrTok, "101": api.ErrArg}
	wrongNum    = map[string]api.Errno{"x": api.ErrTok, "07": api.ErrTok, "65536": api.ErrArg, "1": api.ErrThere}
	wrongZone   = map[string]api.Errno{"any": api.ErrTok, "-": api.ErrTok, "new": api.ErrNone}
	wrongNet    = map[string]api.Errno{"x": api.ErrTok, "10.1.0.0/8": api.ErrTok, "10.0.0.0/8": api.ErrThere}
	wrongWay    = map[string]api.Errno{"x": api.ErrTok, "01": api.ErrTok, "65536": api.ErrArg, "7": api.ErrNone}
	wrongEnd    = map[string]api.Errno{"-": api.ErrTok, "0": api.ErrTok, "new": api.ErrNone}
	wrongOption = map[string]api.Errno{"x": api.ErrTok, "help": api.ErrTok}
	wrongPrefix = map[string]api.Errno{"x": api.ErrTok, "10.1.0.0/8": api.ErrTok}
	wrongProto  = map[string]api.Errno{"x": api.ErrTok}
	wrongPorts  = map[string]api.Errno{"x": api.ErrTok, "1-2-3": api.ErrTok, "65536": api.ErrArg, "2-1": api.ErrArg}
	wrongAction = map[string]api.Errno{"x": api.ErrTok, "src": api.ErrTok}
	wrongHelp   = map[string]api.Errno{"x": api.ErrTok}
	wrongHelper = map[string]api.Errno{"x": api.ErrTok, "tcp": api.ErrTok}
)

func placed() [][]place {
	return [][]place{
		places("zone new 5", wrongKind, wrongNew, wrongTrust),
		places("iface 7 lan", wrongKind, wrongNum, wrongZone),
		places("path 11.0.0.0/8 1", wrongKind, wrongNet, wrongWay),
		places("rule lan wan allow", wrongKind, wrongEnd, wrongEnd, wrongAction),
		places("rule lan any src 10.0.0.1 dst 10.0.0.2 proto udp sport 1 dport 2-3 allow help sip",
			wrongKind, wrongEnd, wrongEnd, wrongOption, wrongPrefix, wrongOption, wrongPrefix, wrongOption, wrongProto, wrongOption, wrongPorts, wrongOption, wrongPorts, wrongAction, wrongHelp, wrongHelper),
	}
}

// P8.1: of two wrong words of a line the first one's error is told, also if words behind it are missing, or there is one more.
func TestTwoWrongWords(t *testing.T) {
	for _, line := range placed() {
		words := make([]string, len(line))
		for i, p := range line {
			words[i] = p.word
		}
		grounded(t, strings.Join(words, " "), api.OK)
		for i, p := range line {
			for w, e := range p.wrong {
				turned := slices.Clone(words)
				turned[i] = w
				grounded(t, strings.Join(turned, " "), e)
				grounded(t, strings.Join(turned, " ")+" more", e)
				for n := i + 1; n < len(turned); n++ {
					grounded(t, strings.Join(turned[:n], " "), e)
				}
				for j := i + 1; j < len(line); j++ {
					for other := range line[j].wrong {
						both := slices.Clone(turned)
						both[j] = other
						grounded(t, strings.Join(both, " "), e)
					}
				}
			}
		}
	}
}

// P8.1, P8.5: of two wrong lines the first one's number and error are told, whatever stands behind it.
func TestTwoWrongLines(t *testing.T) {
	wrong := map[string]api.Errno{
		"x": api.ErrTok, "zone lan": api.ErrThere, "zone new": api.ErrTok, "zone new 101": api.ErrArg, "iface 1 lan": api.ErrThere, "iface 7 new": api.ErrNone, "path 11.0.0.0/8 7": api.ErrNone, "path 10.0.0.0/8 1": api.ErrThere,
		"rule any new allow": api.ErrNone, "rule any any dport 1 allow": api.ErrArg, "rule any any": api.ErrTok, "rule any any proto tcp dport 2-1 allow": api.ErrArg, "\xff": api.ErrTok,
	}
	behind := []string{"", "\n", "#", "zone new 1", "iface 7 wan", "path 11.0.0.0/8 1", "rule any any allow", strings.TrimSuffix(many("zone", 20), "\n"), strings.Repeat("x", 10000)}
	for line := range wrong {
		behind = append(behind, line)
	}
	for line, e := range wrong {
		for _, b := range behind {
			faulty(t, ground+line+"\n"+b, e, groundLines+1)
			faulty(t, ground+"# "+line+"\n"+line+"\n"+b+"\n"+b, e, groundLines+2)
			faulty(t, ground+"zone more 5\n\n"+line+" # "+b[:min(5, len(b))]+"\n"+b, e, groundLines+3)
		}
		faulty(t, ground+line+"\n"+strings.Repeat("y", 40000), api.ErrLen, 0)
	}
}
