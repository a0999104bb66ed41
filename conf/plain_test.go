package conf_test

import (
	"fmt"
	"math/big"
	"math/rand"
	"regexp"
	"strings"
	"testing"

	"stockade/addr"
	"stockade/api"
	"stockade/conf"
)

var (
	remark    = regexp.MustCompile(`(?s)#.*$`)
	wordShape = regexp.MustCompile(`[^ \t]+`)
	nameShape = regexp.MustCompile(`^[a-zA-Z][-a-zA-Z0-9_]{0,15}$`)
	numShape  = regexp.MustCompile(`^(0|[1-9][0-9]*)$`)
	portShape = regexp.MustCompile(`^(0|[1-9][0-9]*)(-(0|[1-9][0-9]*))?$`)

	plainProtos  = map[string]int{"tcp": 6, "udp": 17, "icmp": 1, "icmp6": 58}
	plainHelpers = map[string]int{"ftp": 1, "tftp": 2, "sip": 3}
	plainActions = map[string]int{"deny": 0, "allow": 1}
)

// plain reads a text in the chapter's own words: a line is a row of places, each of which asks a word.
type plain struct {
	c     api.Conf
	l     api.Line
	p     api.Path
	ports bool
}

type asker func(word string) api.Errno

func (m *plain) parse(s string) (api.Conf, api.Fault) {
	if len(s) > 32768 {
		return api.Conf{}, api.Fault{Why: api.ErrLen}
	}
	for at := 1; ; at++ {
		line, rest, more := strings.Cut(s, "\n")
		if e := m.line(wordShape.FindAllString(remark.ReplaceAllString(line, ""), -1)); e != api.OK {
			return api.Conf{}, api.Fault{Why: e, At: at}
		}
		if !more {
			return m.c, api.Fault{}
		}
		s = rest
	}
}

func (m *plain) line(words []string) api.Errno {
	if len(words) == 0 {
		return api.OK
	}
	switch words[0] {
	case "zone":
		m.c.Zones = append(m.c.Zones, api.Zone{})
		z := &m.c.Zones[len(m.c.Zones)-1]
		return m.row(words[1:], len(m.c.Zones) > 16, m.newName(&z.Name), limited(&z.Trust, 100))
	case "iface":
		f := api.Iface{Num: -1}
		e := m.row(words[1:], len(m.c.Ifaces) >= 32, m.newNum(&f.Num), m.zoneName(&f.Zone, false))
		m.c.Ifaces = append(m.c.Ifaces, f)
		return e
	case "path":
		m.p = api.Path{}
		e := m.row(words[1:], len(m.c.Paths) >= 64, m.newNet, m.oldNum)
		m.c.Paths = append(m.c.Paths, m.p)
		return e
	case "rule":
		return m.rule(words[1:])
	}
	return api.ErrTok
}

// row asks each word at its place; behind the last place there may be none.
func (m *plain) row(words []string, many bool, row ...asker) api.Errno {
	for i, ask := range row {
		if i >= len(words) {
			return api.ErrTok
		}
		if e := ask(words[i]); e != api.OK {
			return e
		}
	}
	switch {
	case len(words) > len(row):
		return api.ErrTok
	case many:
		return api.ErrMany
	}
	return api.OK
}

func is(words ...string) asker {
	return func(w string) api.Errno {
		for _, x := range words {
			if w == x {
				return api.OK
			}
		}
		return api.ErrTok
	}
}

// limited asks for a number of any length.
func limited(to *int, most int64) asker {
	return func(w string) api.Errno {
		if !numShape.MatchString(w) {
			return api.ErrTok
		}
		n, _ := new(big.Int).SetString(w, 10)
		if n.Cmp(big.NewInt(most)) > 0 {
			return api.ErrArg
		}
		*to = int(n.Int64())
		return api.OK
	}
}

func (m *plain) newName(to *string) asker {
	return func(w string) api.Errno {
		if !nameShape.MatchString(w) || w == "any" {
			return api.ErrTok
		}
		for _, z := range m.c.Zones {
			if z.Name == w {
				return api.ErrThere
			}
		}
		*to = w
		return api.OK
	}
}

func (m *plain) zoneName(to *string, anyToo bool) asker {
	return func(w string) api.Errno {
		*to = w
		if w == "any" && anyToo {
			return api.OK
		}
		if !nameShape.MatchString(w) || w == "any" {
			return api.ErrTok
		}
		for _, z := range m.c.Zones {
			if z.Name == w {
				return api.OK
			}
		}
		return api.ErrNone
	}
}

func (m *plain) numbered(n int) bool {
	for _, f := range m.c.Ifaces {
		if f.Num == n {
			return true
		}
	}
	return false
}

func (m *plain) newNum(to *int) asker {
	return func(w string) api.Errno {
		e := limited(to, 65535)(w)
		if e == api.OK && m.numbered(*to) {
			return api.ErrThere
		}
		return e
	}
}

func (m *plain) oldNum(w string) api.Errno {
	e := limited(&m.p.Num, 65535)(w)
	if e == api.OK && !m.numbered(m.p.Num) {
		return api.ErrNone
	}
	return e
}

func prefixed(to *api.Prefix) asker {
	return func(w string) api.Errno {
		p, e := addr.ParsePrefix(w)
		if e != api.OK {
			return api.ErrTok
		}
		*to = p
		return api.OK
	}
}

func (m *plain) newNet(w string) api.Errno {
	if e := prefixed(&m.p.Net)(w); e != api.OK {
		return e
	}
	for _, p := range m.c.Paths {
		if addr.PrefixText(p.Net) == addr.PrefixText(m.p.Net) {
			return api.ErrThere
		}
	}
	return api.OK
}

func listed(to *int, list map[string]int) asker {
	return func(w string) api.Errno {
		n, ok := list[w]
		if !ok {
			return api.ErrTok
		}
		*to = n
		return api.OK
	}
}

func (m *plain) ranged(to *api.Ports) asker {
	return func(w string) api.Errno {
		m.ports = true
		got := portShape.FindStringSubmatch(w)
		if got == nil {
			return api.ErrTok
		}
		e := limited(&to.Lo, 65535)(got[1])
		to.Hi = to.Lo
		if e == api.OK && got[2] != "" {
			e = limited(&to.Hi, 65535)(got[3])
		}
		if e == api.OK && to.Lo > to.Hi {
			return api.ErrArg
		}
		return e
	}
}

// rule lays the row of places that the words' options ask for.
func (m *plain) rule(words []string) api.Errno {
	m.l, m.ports = api.Line{Sport: all, Dport: all}, false
	row := []asker{m.zoneName(&m.l.From, true), m.zoneName(&m.l.To, true)}
	at := func(i int) string {
		if i < len(words) {
			return words[i]
		}
		return ""
	}
	for _, o := range []struct {
		name string
		ask  asker
	}{{"src", prefixed(&m.l.Src)}, {"dst", prefixed(&m.l.Dst)}, {"proto", listed(&m.l.Proto, plainProtos)}, {"sport", m.ranged(&m.l.Sport)}, {"dport", m.ranged(&m.l.Dport)}} {
		if at(len(row)) == o.name {
			row = append(row, is(o.name), o.ask)
		}
	}
	row = append(row, listed(&m.l.Action, plainActions))
	if at(len(row)) == "help" {
		row = append(row, is("help"), listed(&m.l.Help, plainHelpers))
	}
	e := m.row(words, false, row...)
	m.c.Rules = append(m.c.Rules, m.l)
	switch {
	case e != api.OK:
		return e
	case m.breaks():
		return api.ErrArg
	case len(m.c.Rules) > 64:
		return api.ErrMany
	}
	return api.OK
}

// breaks tells whether the rule breaks one of the last sentences, clause by clause.
func (m *plain) breaks() bool {
	l := m.l
	six, four := l.Src.Addr.Fam == 6 || l.Dst.Addr.Fam == 6, l.Src.Addr.Fam == 4 || l.Dst.Addr.Fam == 4
	switch {
	case m.ports && l.Proto != 6 && l.Proto != 17:
		return true
	case l.Help != 0 && l.Action != 1:
		return true
	case l.Help == 1 && l.Proto != 6, l.Help == 2 && l.Proto != 17, l.Help == 3 && l.Proto != 17:
		return true
	case six && four:
		return true
	case l.Proto == 1 && six, l.Proto == 58 && four:
		return true
	}
	return false
}

// plainText writes whatever a configuration has, by the form of its lines; of numbers that no word stands for it writes the number.
func plainText(c api.Conf) string {
	var b strings.Builder
	for _, z := range c.Zones {
		fmt.Fprintf(&b, "zone %s %d\n", z.Name, z.Trust)
	}
	for _, f := range c.Ifaces {
		fmt.Fprintf(&b, "iface %d %s\n", f.Num, f.Zone)
	}
	for _, p := range c.Paths {
		fmt.Fprintf(&b, "path %s %d\n", addr.PrefixText(p.Net), p.Num)
	}
	for _, l := range c.Rules {
		b.WriteString("rule " + l.From + " " + l.To)
		for i, p := range []api.Prefix{l.Src, l.Dst} {
			if p.Addr.Fam != 0 {
				fmt.Fprintf(&b, " %s %s", []string{"src", "dst"}[i], addr.PrefixText(p))
			}
		}
		if l.Proto != 0 {
			b.WriteString(" proto " + wordFor(plainProtos, l.Proto))
		}
		for i, p := range []api.Ports{l.Sport, l.Dport} {
			if p.Lo == p.Hi {
				fmt.Fprintf(&b, " %s %d", []string{"sport", "dport"}[i], p.Lo)
			} else if p != all {
				fmt.Fprintf(&b, " %s %d-%d", []string{"sport", "dport"}[i], p.Lo, p.Hi)
			}
		}
		b.WriteString(" " + wordFor(plainActions, l.Action))
		if l.Help != 0 {
			b.WriteString(" help " + wordFor(plainHelpers, l.Help))
		}
		b.WriteString("\n")
	}
	return b.String()
}

func wordFor(list map[string]int, n int) string {
	for w, x := range list {
		if x == n {
			return w
		}
	}
	return fmt.Sprint(n)
}

// agree holds Parse against the plain reading.
func agree(t testing.TB, s string) (api.Conf, api.Fault) {
	t.Helper()
	got, f := conf.Parse(s)
	want, wf := new(plain).parse(s)
	if f != wf || !same(got, want) {
		t.Fatalf("Parse(%.2000q): %v %v, want %v %v", s, f, got, wf, want)
	}
	return got, f
}

// P8.1: all rows of up to four words out of a rule's, behind its zones, and behind some of its options.
func TestAllRows(t *testing.T) {
	words := []string{"src", "dst", "proto", "sport", "dport", "help", "allow", "deny", "10.0.0.1", "::1", "tcp", "udp", "icmp", "icmp6", "7", "9-8", "ftp", "sip", "x"}
	heads := []string{"", " proto tcp", " proto udp allow", " src 10.0.0.0/8", " dst ::/0 proto"}
	met := map[api.Errno]int{}
	var grow func(line string, left int)
	grow = func(line string, left int) {
		_, f := agree(t, line)
		met[f.Why]++
		if left == 0 {
			return
		}
		for _, w := range words {
			grow(line+" "+w, left-1)
		}
	}
	for _, h := range heads {
		grow("rule any any"+h, 3)
	}
	if met[api.OK] < 40 || met[api.ErrTok] < 10000 || met[api.ErrArg] < 60 {
		t.Error(met)
	}
}

// chance picks words and lines.
type chance struct{ *rand.Rand }

func (r chance) of(list ...string) string { return list[r.Intn(len(list))] }

func (r chance) name() string {
	return r.of("lan", "wan", "dmz", "a", "b-1", "Z_9", "abcdefghijklmnop")
}

func (r chance) number(most int) string {
	switch r.Intn(8) {
	case 0:
		return fmt.Sprint(most)
	case 1:
		return fmt.Sprint(r.Intn(most + 1))
	}
	return fmt.Sprint(r.Intn(6))
}

func (r chance) net(fam int) string {
	if fam == 6 {
		return r.of("::/0", "::1", "fe80::/10", "2001:db8::/32", "2001:DB8:0::/48", "ffff::")
	}
	return r.of("0.0.0.0/0", "10.0.0.0/8", "10.0.0.1", "10.0.0.1/32", "192.168.0.0/16", "255.255.255.255", "172.16.0.0/12")
}

func (r chance) portWord() string {
	lo := r.Intn(65536)
	switch r.Intn(4) {
	case 0:
		return fmt.Sprintf("%d-%d", lo, lo+r.Intn(65536-lo))
	case 1:
		return r.of("0-65535", "0", "65535", "0-0", "80-80")
	}
	return fmt.Sprint(lo)
}

func (r chance) rule() []string {
	fam := 4 + 2*r.Intn(2)
	words := []string{"rule", r.of("any", r.name()), r.of("any", r.name())}
	if r.Intn(2) == 0 {
		words = append(words, "src", r.net(fam))
	}
	if r.Intn(2) == 0 {
		words = append(words, "dst", r.net(fam))
	}
	proto := r.of("", "tcp", "udp", "icmp", "icmp6")
	if proto == "icmp" && fam == 6 || proto == "icmp6" && fam == 4 {
		proto = "udp"
	}
	if proto != "" {
		words = append(words, "proto", proto)
	}
	if (proto == "tcp" || proto == "udp") && r.Intn(2) == 0 {
		words = append(words, "sport", r.portWord())
	}
	if (proto == "tcp" || proto == "udp") && r.Intn(2) == 0 {
		words = append(words, "dport", r.portWord())
	}
	words = append(words, r.of("allow", "deny"))
	if words[len(words)-1] == "allow" && r.Intn(2) == 0 {
		switch proto {
		case "tcp":
			words = append(words, "help", "ftp")
		case "udp":
			words = append(words, "help", r.of("tftp", "sip"))
		}
	}
	return words
}

func (r chance) words() []string {
	switch r.Intn(6) {
	case 0:
		return []string{"zone", r.name(), r.number(100)}
	case 1:
		return []string{"iface", r.number(65535), r.name()}
	case 2:
		return []string{"path", r.net(4 + 2*r.Intn(2)), r.number(65535)}
	}
	return r.rule()
}

// spoil turns a number or another word, leaves one out, puts one in, or changes two.
func (r chance) spoil(words []string) []string {
	words = append([]string{}, words...)
	i, j := r.Intn(len(words)), r.Intn(len(words))
	odd := r.of("any", "x", "0", "00", "65536", "101", "99999999999999999999", "5-4", "5-", "-", "lan", "src", "dst", "proto", "sport", "dport", "allow", "deny", "help", "tcp", "icmp", "icmp6", "ftp", "sip", "::1", "10.0.0.1", "10.1.0.0/8", "é", "\xff", "zone", "rule", "abcdefghijklmnopq", "\r", "9lan", "0-65535")
	for k, w := range words {
		if portShape.MatchString(w) && r.Intn(2) == 0 {
			words[k] = r.of("65536", "101", "9-8", "70000-1", "18446744073709551617")
			return words
		}
	}
	switch r.Intn(4) {
	case 0:
		words[i] = odd
	case 1:
		words = append(words[:i], words[i+1:]...)
	case 2:
		words = append(words[:i], append([]string{odd}, words[i:]...)...)
	default:
		words[i], words[j] = words[j], words[i]
	}
	return words
}

// text is a row of lines, most of which may be: a line that would be refused is nearly always left out.
func (r chance) text(lines, odd int) string {
	var kept []string
	for range lines {
		words := r.words()
		if r.Intn(100) < odd {
			words = r.spoil(words)
		}
		line := strings.Join(words, " ")
		if len(kept) > 0 && r.Intn(200) < odd {
			line = kept[r.Intn(len(kept))]
		}
		_, f := new(plain).parse(strings.Join(append(kept[:len(kept):len(kept)], line), "\n"))
		if f.Why == api.OK || r.Intn(100) < odd {
			kept = append(kept, line)
		}
	}
	return strings.Join(kept, "\n")
}

// decorate puts remarks, blanks and empty lines into a text; it answers where each line stands now.
func (r chance) decorate(s string) (string, []int) {
	var b strings.Builder
	places, at := []int{0}, 1
	for line := range strings.SplitSeq(s, "\n") {
		for r.Intn(3) == 0 {
			b.WriteString(r.of("", " ", "\t \t", "#", " # zone x", "##zone a 5", "\t#\xff\x00\r") + "\n")
			at++
		}
		places = append(places, at)
		b.WriteString(r.of("", " ", "\t", "  \t"))
		for w := range strings.SplitSeq(line, " ") {
			b.WriteString(w + r.of(" ", "\t", "  ", "\t\t \t"))
		}
		b.WriteString(r.of("", "#", "# x", "#zone lan 5", "\t# a # b") + "\n")
		at++
	}
	return b.String(), places
}

// P8.1 to P8.4: texts by chance, against the plain reading, written again, and decorated.
func TestAny(t *testing.T) {
	r := chance{rand.New(rand.NewSource(8))}
	met := map[api.Errno]int{}
	for i := range 6000 {
		s := r.text(1+r.Intn(25), []int{0, 3, 20, 60}[i%4])
		c, f := agree(t, s)
		met[f.Why]++
		if f.Why == api.OK {
			shown(t, c)
		}
		worn, places := r.decorate(s)
		if d, g := agree(t, worn); g.Why != f.Why || g.At != places[f.At] || !same(c, d) {
			t.Fatalf("%q: %v, but %q: %v", s, f, worn, g)
		}
	}
	for _, e := range []api.Errno{api.OK, api.ErrArg, api.ErrTok, api.ErrThere, api.ErrNone} {
		if met[e] < 100 {
			t.Errorf("%v was met only %d times", e, met[e])
		}
	}
}

// shown asks for what P8.2 and P8.3 say of a configuration that may be.
func shown(t *testing.T, c api.Conf) {
	t.Helper()
	s := conf.Show(c)
	again, f := conf.Parse(s)
	if f != (api.Fault{}) || !same(again, c) || !conf.Same(again, c) || !conf.Right(c) || s != plainText(c) || conf.Show(again) != s {
		t.Fatalf("Show(%v): %q", c, s)
	}
}

// P8.5: what stands behind the first wrong line turns nothing of the fault.
func TestBehind(t *testing.T) {
	r := chance{rand.New(rand.NewSource(85))}
	wrong := 0
	for range 3000 {
		s := r.text(1+r.Intn(12), 40)
		_, f := conf.Parse(s)
		if f.Why == api.OK {
			continue
		}
		wrong++
		lines := strings.Split(s, "\n")
		head := strings.Join(lines[:f.At], "\n")
		for _, tail := range []string{"", "\n", "\n" + r.text(8, 50), "\nx", "\n" + strings.Repeat("\xff\n", 50), " # end", "\t\n" + strings.Join(lines[:f.At], "\n")} {
			faulty(t, head+tail, f.Why, f.At)
		}
		if f.At > 1 {
			parsed(t, strings.Join(lines[:f.At-1], "\n"))
		}
	}
	if wrong < 500 {
		t.Error(wrong)
	}
}

// P8.2: configurations by chance, of which several fields may be turned at once, whether they may be or not.
func TestAnyConf(t *testing.T) {
	r := chance{rand.New(rand.NewSource(82))}
	may := 0
	names := oddNames()
	for range 6000 {
		c := parsed(t, r.text(1+r.Intn(20), 0))
		for range r.Intn(4) {
			r.turn(&c, names)
		}
		if holds(t, c) {
			may++
		}
	}
	if may < 1500 || may > 5000 {
		t.Error(may)
	}
}

// turn turns a field of a line.
func (r chance) turn(c *api.Conf, names []string) {
	name, n := names[r.Intn(len(names))], oddInts[r.Intn(len(oddInts))]
	net, ports := oddNets[r.Intn(len(oddNets))], oddPorts[r.Intn(len(oddPorts))]
	if len(c.Zones) > 0 && r.Intn(8) == 0 {
		c.Zones[r.Intn(len(c.Zones))] = api.Zone{Name: name, Trust: r.Intn(110)}
	}
	if len(c.Ifaces) > 0 && r.Intn(8) == 0 {
		c.Ifaces[r.Intn(len(c.Ifaces))].Num = n
	}
	if len(c.Paths) > 0 && r.Intn(8) == 0 {
		c.Paths[r.Intn(len(c.Paths))].Net = net
	}
	if len(c.Rules) == 0 {
		return
	}
	l := &c.Rules[r.Intn(len(c.Rules))]
	switch r.Intn(9) {
	case 0:
		l.From = name
	case 1:
		l.To = r.of("any", "lan", "new")
	case 2:
		l.Src = net
	case 3:
		l.Dst = net
	case 4:
		l.Proto = []int{0, 1, 6, 17, 58}[r.Intn(5)]
	case 5:
		l.Sport = ports
	case 6:
		l.Dport = ports
	case 7:
		l.Action = r.Intn(3)
	default:
		l.Help = r.Intn(5)
	}
}

// R1: texts of any bytes have an answer, and it is the plain reading's.
func TestAnyBytes(t *testing.T) {
	r := chance{rand.New(rand.NewSource(81))}
	for range 20000 {
		b := []byte(r.text(1+r.Intn(4), 10))
		for range 1 + r.Intn(4) {
			i := r.Intn(len(b) + 1)
			switch x := byte(r.Intn(256)); {
			case r.Intn(2) == 0 || i == len(b):
				b = append(b[:i], append([]byte{x}, b[i:]...)...)
			case r.Intn(2) == 0:
				b[i] = x
			default:
				b = append(b[:i], b[i+1:]...)
			}
		}
		agree(t, string(b))
	}
	for range 500 {
		b := make([]byte, r.Intn(200))
		for i := range b {
			b[i] = byte(r.Intn(256))
		}
		agree(t, string(b))
	}
}

func FuzzParse(f *testing.F) {
	f.Add(example)
	f.Add(ground + "rule lan any src 10.0.0.1 dst 10.0.0.2 proto udp sport 1 dport 2-3 allow help sip")
	f.Fuzz(func(t *testing.T, s string) {
		c, fault := agree(t, s)
		if fault.Why == api.OK {
			shown(t, c)
		}
	})
}
