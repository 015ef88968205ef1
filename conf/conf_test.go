package conf

import (
	"reflect"
	"strings"
	"testing"

	"distributary/addr"
	"distributary/api"
	"distributary/pfx"
)

const whole = `# all kinds of lines
factor 150
domain rack
self 10.0.0.9
self 2001:db8::9
level l0
zone z0 l0
zone z1 l0 65535
rack r0 z0 1
rack r1 z1
host h0 r0 0 10.0.1.1
host h1 r1 65535 2001:db8::1

vip 10.9.9.9 tcp 0
vip 10.9.9.9 udp 65535 copies 8 nat # much
vip ::1 udp 53 copies 2
vip ::1 tcp 80 nat
view 0.0.0.0/0 0
view 2001:db8::/32 3`

func wholeConfig() api.Config {
	p, _ := pfx.Parse("2001:db8::/32")
	return api.Config{
		Nodes: []api.Node{
			{Name: "l0", Kind: api.Level, Above: -1}, {Name: "z0", Kind: api.Zone, Above: 0}, {Name: "z1", Kind: api.Zone, Above: 0, Weight: 65535},
			{Name: "r0", Kind: api.Rack, Above: 1, Weight: 1}, {Name: "r1", Kind: api.Rack, Above: 2},
			{Name: "h0", Kind: api.Host, Above: 3, Addr: addr.V4(0x0a000101)}, {Name: "h1", Kind: api.Host, Above: 4, Weight: 65535, Addr: addr.V6(0x20010db800000000, 1)},
		},
		Vips: []api.Vip{
			{Addr: addr.V4(0x0a090909), Proto: api.Tcp, Copies: 1}, {Addr: addr.V4(0x0a090909), Proto: api.Udp, Port: 65535, Copies: 8, Nat: true},
			{Addr: addr.V6(0, 1), Proto: api.Udp, Port: 53, Copies: 2}, {Addr: addr.V6(0, 1), Proto: api.Tcp, Port: 80, Copies: 1, Nat: true},
		},
		Views:  []api.View{{}, {Prefix: p, Level: 3}},
		Factor: 150, Domain: api.Rack, Self: [2]api.Addr{addr.V4(0x0a000009), addr.V6(0x20010db800000000, 9)},
	}
}

func TestParse(t *testing.T) { // 18.1
	c, no, e := Parse(whole)
	if e != api.OK || no != 0 || !reflect.DeepEqual(c, wholeConfig()) {
		t.Fatal(no, e, c)
	}
	c, no, e = Parse("")
	if e != api.OK || no != 0 || !reflect.DeepEqual(c, api.Config{Factor: 140, Domain: api.Zone}) {
		t.Fatal(no, e, c)
	}
}

func TestParseErrors(t *testing.T) { // 18.1
	const tree = "level l\nzone z l\nrack r z\nhost h r 1 1.2.3.4\nself 1.1.1.1\nself ::1\n"
	for _, c := range []struct {
		line string
		want api.Errno
	}{
		{"hosts a", api.ErrWord}, {"Factor 100", api.ErrWord}, {"factor", api.ErrForm}, {"factor 100 100", api.ErrForm}, {"factor 99", api.ErrRange}, {"factor 1001", api.ErrRange}, {"factor x", api.ErrRange}, {"factor 0100", api.ErrRange},
		{"factor 100", api.OK}, {"factor 1000", api.OK}, {"factor 100\nfactor 100", api.ErrTwice}, {"factor 100\nfactor 200", api.ErrTwice}, {"factor 100\nfactor 99", api.ErrRange}, {"domain", api.ErrForm}, {"domain zone zone", api.ErrForm}, {"domain host", api.ErrForm}, {"domain Zone", api.ErrForm},
		{"domain zone", api.OK}, {"domain rack\ndomain zone", api.ErrTwice}, {"domain rack\ndomain host", api.ErrForm},
		{"self", api.ErrForm}, {"self 1.1.1.1 2.2.2.2", api.ErrForm}, {"self 1.1.1", api.ErrAddr}, {"self 1.1.1.1", api.ErrTwice}, {"self ::2", api.ErrTwice}, {"self 0.0.0.0", api.ErrTwice},
		{"level", api.ErrForm}, {"level a b", api.ErrForm}, {"level h", api.ErrTwice}, {"level l", api.ErrTwice}, {"level a/b", api.OK}, {"level a\nlevel a", api.ErrTwice},
		{"zone a", api.ErrForm}, {"zone a l 1 1", api.ErrForm}, {"zone a b", api.ErrNone}, {"zone a a", api.ErrNone}, {"zone z b 0", api.ErrNone}, {"zone z l 0", api.ErrWeight}, {"zone z l 65536", api.ErrWeight}, {"zone z l x", api.ErrWeight}, {"zone z l", api.ErrTwice}, {"zone h l 1", api.ErrTwice},
		{"zone a l", api.OK}, {"zone a h 65535", api.OK}, {"rack a", api.ErrForm}, {"rack a z 1 1", api.ErrForm}, {"rack a b", api.ErrNone}, {"rack a z 0", api.ErrWeight}, {"rack a z 65536", api.ErrWeight}, {"rack r z 1", api.ErrTwice}, {"rack a l", api.OK}, {"rack a z 1", api.OK},
		{"host a r 1", api.ErrForm}, {"host a r 1 1.1.1.1 x", api.ErrForm}, {"host a b x x", api.ErrNone}, {"host a r 65536 x", api.ErrWeight}, {"host a r -1 1.1.1.1", api.ErrWeight}, {"host h r 1 x", api.ErrAddr}, {"host h r 1 1.1.1.1", api.ErrTwice}, {"host a z 0 1.2.3.4", api.OK}, {"host a r 65535 ::", api.OK},
		{"vip", api.ErrForm}, {"vip x tcp", api.ErrForm}, {"vip x y z", api.ErrAddr}, {"vip 1.1.1.1 icmp 1", api.ErrForm}, {"vip 1.1.1.1 tcp 65536", api.ErrForm}, {"vip 1.1.1.1 TCP 1", api.ErrForm}, {"vip 1.1.1.1 tcp x", api.ErrForm},
		{"vip 1.1.1.1 udp 1 copies", api.ErrForm}, {"vip 1.1.1.1 udp 1 copies 1", api.ErrRange}, {"vip 1.1.1.1 udp 1 copies 9", api.ErrRange}, {"vip 1.1.1.1 udp 1 copies nat", api.ErrRange}, {"vip 1.1.1.1 udp 1 copies 1 x", api.ErrRange}, {"vip 1.1.1.1 udp 1 copies 2 x", api.ErrForm},
		{"vip 1.1.1.1 udp 1 nat copies 2", api.ErrForm}, {"vip 1.1.1.1 udp 1 nat nat", api.ErrForm}, {"vip 1.1.1.1 udp 1 x", api.ErrForm}, {"vip 1.1.1.1 x 1 copies 1", api.ErrForm}, {"vip 1.1.1.1 udp 1 copies 2 nat x", api.ErrForm}, {"vip 1.1.1.1 udp 1 copies 2 copies 2", api.ErrForm},
		{"vip 1.1.1.1 tcp 1 copies 2 nat", api.OK}, {"vip 1.1.1.1 tcp 1\nvip 1.1.1.1 tcp 1", api.OK}, {"view", api.ErrForm}, {"view 1.0.0.0/8", api.ErrForm}, {"view 1.0.0.0/8 0 0", api.ErrForm}, {"view 1.0.0.1/8 9", api.ErrAddr}, {"view 1.0.0.0/8 4", api.ErrRange}, {"view 1.0.0.0/8 x", api.ErrRange}, {"view ::/0 3", api.OK},
		{"a\x00", api.ErrForm}, {strings.Repeat(" ", 65536), api.ErrLong},
	} {
		text := tree + c.line + "\nnone of these # but a later line"
		_, no, e := Parse(text)
		want, line := c.want, 6+strings.Count(c.line, "\n")+1
		if want == api.OK {
			want, line = api.ErrWord, line+1
		}
		if want == api.ErrLong {
			line = 0
		}
		if got, _, _ := Parse(text); e != want || no != line || !reflect.DeepEqual(got, api.Config{}) {
			t.Error(c.line, e, no)
		}
	}
	for _, c := range []struct {
		s    string
		no   int
		want api.Errno
	}{{"factor 99", 1, api.ErrRange}, {"self 0.0.0.0", 1, api.ErrAddr}, {"x\n\x00", 2, api.ErrForm}, {"\n\nx", 3, api.ErrWord}, {"self ::", 0, api.OK}, {"zone a a", 1, api.ErrNone}} {
		if _, no, e := Parse(c.s); no != c.no || e != c.want {
			t.Error(c.s, no, e)
		}
	}
}

func TestText(t *testing.T) { // 18.2, 18.3
	want := `factor 150
domain rack
self 10.0.0.9
self 2001:db8::9
level l0
zone z0 l0
zone z1 l0 65535
rack r0 z0 1
rack r1 z1
host h0 r0 0 10.0.1.1
host h1 r1 65535 2001:db8::1
vip 10.9.9.9 tcp 0
vip 10.9.9.9 udp 65535 copies 8 nat
vip ::1 udp 53 copies 2
vip ::1 tcp 80 nat
view 0.0.0.0/0 0
view 2001:db8::/32 3
`
	if got := Text(wholeConfig()); got != want {
		t.Error(got)
	}
	if c, _, e := Parse(want); e != api.OK || !reflect.DeepEqual(c, wholeConfig()) {
		t.Error("not read as it was", e)
	}
	if got := Text(api.Config{Factor: 140, Domain: api.Zone}); got != "factor 140\ndomain zone\n" {
		t.Error(got)
	}
	one := api.Config{Factor: 140, Domain: api.Zone, Self: [2]api.Addr{{}, addr.V6(0, 0)}}
	if got := Text(one); got != "factor 140\ndomain zone\nself ::\n" {
		t.Error(got)
	}
	if c, _, e := Parse(Text(one)); e != api.OK || !reflect.DeepEqual(c, one) {
		t.Error(c, e)
	}
}

func TestTextEnds(t *testing.T) { // R1: of others too
	for _, n := range []api.Node{{}, {Kind: 4, Above: 99}, {Kind: 2, Above: -9}, {Kind: 99, Above: 1 << 62, Weight: -1}} {
		Text(api.Config{Factor: -1, Nodes: []api.Node{n}, Vips: []api.Vip{{Port: -1, Copies: -1}}, Views: []api.View{{Level: -1, Prefix: api.Prefix{Bits: -1}}}})
	}
}
