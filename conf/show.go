package conf

import (
	"strconv"
	"strings"

	"stockade/addr"
	"stockade/api"
)

// Show is a configuration's text.
func Show(c api.Conf) string {
	if !Right(c) {
		return ""
	}
	var b strings.Builder
	for _, z := range c.Zones {
		b.WriteString(lineOf("zone", z.Name, strconv.Itoa(z.Trust)))
	}
	for _, f := range c.Ifaces {
		b.WriteString(lineOf("iface", strconv.Itoa(f.Num), f.Zone))
	}
	for _, p := range c.Paths {
		b.WriteString(lineOf("path", addr.PrefixText(p.Net), strconv.Itoa(p.Num)))
	}
	for _, l := range c.Rules {
		b.WriteString(lineOf(ruleWords(l)...))
	}
	return b.String()
}

func lineOf(words ...string) string {
	return strings.Join(words, " ") + "\n"
}

func ruleWords(l api.Line) []string {
	proto, hasProto := wordOf(protos(), l.Proto)
	action, _ := wordOf(actions(), l.Action)
	help, hasHelp := wordOf(helpers(), l.Help)
	words := []string{"rule", l.From, l.To}
	words = told(words, l.Src != api.Prefix{}, "src", addr.PrefixText(l.Src))
	words = told(words, l.Dst != api.Prefix{}, "dst", addr.PrefixText(l.Dst))
	words = told(words, hasProto, "proto", proto)
	words = told(words, l.Sport != anyPorts(), "sport", portsText(l.Sport))
	words = told(words, l.Dport != anyPorts(), "dport", portsText(l.Dport))
	return told(append(words, action), hasHelp, "help", help)
}

// told puts two words more behind those of a line, if they are told.
func told(words []string, there bool, name, value string) []string {
	if !there {
		return words
	}
	return append(words, name, value)
}

func portsText(p api.Ports) string {
	if p.Lo == p.Hi {
		return strconv.Itoa(p.Lo)
	}
	return strconv.Itoa(p.Lo) + "-" + strconv.Itoa(p.Hi)
}
