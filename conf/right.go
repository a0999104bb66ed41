package conf

import (
	"stockade/addr"
	"stockade/api"
)

// Right tells whether a configuration may be. Lists are bounded first, so that long ones cost nothing. A text of one that may be is never too long.
func Right(c api.Conf) bool {
	if len(c.Zones) > api.MaxZones || len(c.Ifaces) > api.MaxIfaces || len(c.Paths) > api.MaxRules || len(c.Rules) > api.MaxRules {
		return false
	}
	return rightZones(c) && rightIfaces(c) && rightPaths(c) && rightRules(c)
}

func rightZones(c api.Conf) bool {
	for i, z := range c.Zones {
		if !isName(z.Name) || hasZone(c.Zones[:i], z.Name) || !within(z.Trust, maxTrust) {
			return false
		}
	}
	return true
}

func rightIfaces(c api.Conf) bool {
	for i, f := range c.Ifaces {
		if !within(f.Num, maxNum) || hasIface(c.Ifaces[:i], f.Num) || !hasZone(c.Zones, f.Zone) {
			return false
		}
	}
	return true
}

func rightPaths(c api.Conf) bool {
	for i, p := range c.Paths {
		if !addr.RightPrefix(p.Net) || hasPath(c.Paths[:i], p.Net) || !hasIface(c.Ifaces, p.Num) {
			return false
		}
	}
	return true
}

func rightRules(c api.Conf) bool {
	for _, l := range c.Rules {
		if !rightEnd(c, l.From) || !rightEnd(c, l.To) || !rightParts(l) {
			return false
		}
	}
	return true
}

// rightEnd tells whether a rule may have this zone; of a configuration whose zones may be, none is named any.
func rightEnd(c api.Conf, zone string) bool {
	return zone == anyZone || hasZone(c.Zones, zone)
}

func rightParts(l api.Line) bool {
	_, proto := wordOf(protos(), l.Proto)
	_, action := wordOf(actions(), l.Action)
	_, help := wordOf(helpers(), l.Help)
	switch {
	case !rightNet(l.Src) || !rightNet(l.Dst) || !rightPorts(l.Sport) || !rightPorts(l.Dport):
		return false
	case l.Proto != 0 && !proto || !action || l.Help != api.NoHelp && !help:
		return false
	}
	return agrees(l, l.Sport != anyPorts() || l.Dport != anyPorts())
}

func rightNet(p api.Prefix) bool {
	return p == api.Prefix{} || addr.RightPrefix(p)
}

func rightPorts(p api.Ports) bool {
	return within(p.Lo, maxPort) && within(p.Hi, maxPort) && p.Lo <= p.Hi
}

func within(n, most int) bool {
	return n >= 0 && n <= most
}

// agrees tells whether a rule's parts, each of which may be by itself, may stand together. Whether its line tells ports is handed in, as all ports may be told, too.
func agrees(l api.Line, ports bool) bool {
	return (!ports || l.Proto == api.TCP || l.Proto == api.UDP) && helpAgrees(l) && familiesAgree(l)
}

func helpAgrees(l api.Line) bool {
	switch l.Help {
	case api.NoHelp:
		return true
	case api.FTP:
		return l.Action == api.Allow && l.Proto == api.TCP
	}
	return l.Action == api.Allow && l.Proto == api.UDP
}

// familiesAgree tells whether the families that a rule speaks of are one: those of src and dst, and that of its protocol, if it is of one alone.
func familiesAgree(l api.Line) bool {
	one := 0
	for _, fam := range []int{l.Src.Addr.Fam, l.Dst.Addr.Fam, familyOf(l.Proto)} {
		if fam != 0 && one != 0 && fam != one {
			return false
		}
		one = max(one, fam)
	}
	return true
}

// familyOf is the family of a protocol that only one has, else 0.
func familyOf(proto int) int {
	switch proto {
	case api.ICMP:
		return 4
	case api.ICMP6:
		return 6
	}
	return 0
}
