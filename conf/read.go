package conf

import (
	"strconv"
	"strings"

	"stockade/addr"
	"stockade/api"
)

// reader has what the lines ahead gave, and the words of its line that are left.
type reader struct {
	conf api.Conf
	left []string
}

// line reads a line. A wrong word ends it by a panic with its error, so that the words behind it are not looked at.
func (r *reader) line(text string) (why api.Errno) {
	defer func() {
		switch x := recover().(type) {
		case nil:
		case api.Errno:
			why = x
		default:
			panic(x)
		}
	}()
	r.left = wordsOf(text)
	if len(r.left) > 0 {
		r.kind()
	}
	return api.OK
}

// must ends the line, if something that must hold does not.
func must(holds bool, e api.Errno) {
	if !holds {
		panic(e)
	}
}

func (r *reader) kind() {
	switch r.next() {
	case "zone":
		r.zone()
	case "iface":
		r.iface()
	case "path":
		r.path()
	case "rule":
		r.rule()
	default:
		panic(api.ErrTok)
	}
}

func (r *reader) zone() {
	name := r.name()
	must(!hasZone(r.conf.Zones, name), api.ErrThere)
	trust := number(r.next(), maxTrust)
	r.end()
	r.conf.Zones = append(r.conf.Zones, api.Zone{Name: name, Trust: trust})
	must(len(r.conf.Zones) <= api.MaxZones, api.ErrMany)
}

func (r *reader) iface() {
	num := number(r.next(), maxNum)
	must(!hasIface(r.conf.Ifaces, num), api.ErrThere)
	zone := r.known()
	r.end()
	r.conf.Ifaces = append(r.conf.Ifaces, api.Iface{Num: num, Zone: zone})
	must(len(r.conf.Ifaces) <= api.MaxIfaces, api.ErrMany)
}

func (r *reader) path() {
	net := r.prefix()
	must(!hasPath(r.conf.Paths, net), api.ErrThere)
	num := number(r.next(), maxNum)
	must(hasIface(r.conf.Ifaces, num), api.ErrNone)
	r.end()
	r.conf.Paths = append(r.conf.Paths, api.Path{Net: net, Num: num})
	must(len(r.conf.Paths) <= api.MaxRules, api.ErrMany)
}

// rule reads a rule. Ports that are told need their protocol, even if they are all ports; so what was told is kept beside the line.
func (r *reader) rule() {
	l := api.Line{Sport: anyPorts(), Dport: anyPorts()}
	l.From = r.knownOrAny()
	l.To = r.knownOrAny()
	if r.take("src") {
		l.Src = r.prefix()
	}
	if r.take("dst") {
		l.Dst = r.prefix()
	}
	if r.take("proto") {
		l.Proto = r.oneOf(protos())
	}
	told := false
	if r.take("sport") {
		l.Sport, told = r.ports(), true
	}
	if r.take("dport") {
		l.Dport, told = r.ports(), true
	}
	l.Action = r.oneOf(actions())
	if r.take("help") {
		l.Help = r.oneOf(helpers())
	}
	r.end()
	must(agrees(l, told), api.ErrArg)
	r.conf.Rules = append(r.conf.Rules, l)
	must(len(r.conf.Rules) <= api.MaxRules, api.ErrMany)
}

// next takes the next word, which must be there.
func (r *reader) next() string {
	must(len(r.left) > 0, api.ErrTok)
	word := r.left[0]
	r.left = r.left[1:]
	return word
}

// take takes the next word, if it is this one.
func (r *reader) take(word string) bool {
	if len(r.left) == 0 || r.left[0] != word {
		return false
	}
	r.left = r.left[1:]
	return true
}

func (r *reader) end() {
	must(len(r.left) == 0, api.ErrTok)
}

// name takes a NAME, as a copy, so that a configuration does not hold on to the whole text.
func (r *reader) name() string {
	word := r.next()
	must(isName(word), api.ErrTok)
	return strings.Clone(word)
}

// known takes the name of a zone of a line ahead.
func (r *reader) known() string {
	name := r.name()
	must(hasZone(r.conf.Zones, name), api.ErrNone)
	return name
}

func (r *reader) knownOrAny() string {
	if r.take(anyZone) {
		return anyZone
	}
	return r.known()
}

func (r *reader) prefix() api.Prefix {
	p, e := addr.ParsePrefix(r.next())
	must(e == api.OK, api.ErrTok)
	return p
}

func (r *reader) oneOf(list []term) int {
	num, ok := numOf(list, r.next())
	must(ok, api.ErrTok)
	return num
}

// ports takes PORTS. Both numbers are asked for their digits first: what is no PORTS is told ahead of what is too large.
func (r *reader) ports() api.Ports {
	lo, hi, two := strings.Cut(r.next(), "-")
	if !two {
		hi = lo
	}
	must(isNumber(lo) && isNumber(hi), api.ErrTok)
	p := api.Ports{Lo: number(lo, maxPort), Hi: number(hi, maxPort)}
	must(p.Lo <= p.Hi, api.ErrArg)
	return p
}

// number is the number that a word is; Atoi refuses one only if it leaves an int.
func number(word string, most int) int {
	must(isNumber(word), api.ErrTok)
	n, err := strconv.Atoi(word)
	must(err == nil && n <= most, api.ErrArg)
	return n
}
