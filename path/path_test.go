package path

import (
	"bytes"
	"reflect"
	"slices"
	"testing"

	"distributary/addr"
	"distributary/api"
	"distributary/conf"
	"distributary/conn"
	"distributary/elig"
	"distributary/flow"
	"distributary/nat"
	"distributary/pin"
	"distributary/pkt"
	"distributary/tcp"
	"distributary/tun"
	"distributary/valid"
	"distributary/vip"
	"distributary/walk"
)

const text = `self 10.0.0.254
self 2001:db8::fe
level near
level far
zone z0 near
zone z1 near
zone z2 far
rack r0 z0
rack r1 z1
rack r2 z2
host a r0 1 10.1.0.1
host b r1 1 10.1.0.2
host c r1 1 2001:db8::3
host d r2 1 10.1.0.4
vip 10.0.0.1 tcp 80
vip 10.0.0.1 udp 53 copies 3
vip 10.0.0.2 udp 0 nat
vip 10.0.0.3 udp 53 copies 2
vip 2001:db8::1 tcp 0
view 9.0.0.0/8 1
`

var (
	near  = addr.V4(0x01010101)
	far   = addr.V4(0x09010101)
	plain = addr.V4(0x0a000001)
	natto = addr.V4(0x0a000002)
)

func path(t *testing.T, names ...string) *Path {
	t.Helper()
	c, line, e := conf.Parse(text)
	v, f := valid.New(c)
	p, g := pin.New(3, 9, conn.Plain())
	if e != api.OK || f != api.OK || g != api.OK {
		t.Fatal(line, e, f, g)
	}
	hosts := []int{}
	for _, n := range names {
		hosts = append(hosts, v.Find(n))
	}
	return &Path{Conf: v, Vips: vip.New(v), Set: elig.New(v.Tree, hosts...), Walker: &walk.Walker{Factor: v.Factor, Seed: 5}, Pins: p}
}

func packet(t *testing.T, proto int, src, dst api.Addr, port, ttl, flags int) []byte {
	t.Helper()
	x := api.Tuple{Proto: proto, Src: src, Dst: dst, SPort: 1000, DPort: port}
	b, e := pkt.Segment(x, ttl, flags, []byte{1, 2, 3})
	if proto == api.Udp {
		b, e = pkt.Datagram(x, ttl, []byte{1, 2, 3})
	}
	if e != api.OK {
		t.Fatal(e)
	}
	return b
}

// refused is that a packet comes to an error, and changes nothing.
func refused(t *testing.T, p *Path, b []byte, want api.Errno) {
	t.Helper()
	was := p.All()
	outs, way, e := p.Take(b)
	if e != want || outs != nil || !reflect.DeepEqual(way, Way{}) || !slices.Equal(p.All(), was) {
		t.Error(e, want, outs, way)
	}
}

func TestErrors(t *testing.T) { // 32.1, 32.2
	p := path(t, "a", "b", "c", "d")
	syn := func(dst api.Addr, port, ttl int) []byte { return packet(t, api.Tcp, near, dst, port, ttl, tcp.Syn) }
	message := func(dst api.Addr, port, ttl int) []byte {
		back, _ := pkt.Segment(api.Tuple{Proto: api.Tcp, Src: dst, Dst: near, SPort: port, DPort: 1000}, 9, 16, nil)
		b, e := pkt.Unreach(near, ttl, back, 99)
		if e != api.OK {
			t.Fatal(e)
		}
		return b
	}
	refused(t, p, nil, api.ErrShort)
	refused(t, p, syn(plain, 80, 9)[:30], api.ErrLength)
	refused(t, p, syn(plain, 81, 1), api.ErrVip)
	refused(t, p, syn(addr.V4(5), 80, 9), api.ErrVip)
	refused(t, p, syn(plain, 80, 1), api.ErrTTL)
	refused(t, p, syn(plain, 80, 0), api.ErrTTL)
	refused(t, p, message(plain, 80, 9), api.ErrNone)
	refused(t, p, message(plain, 80, 1), api.ErrTTL)
	refused(t, p, message(plain, 81, 9), api.ErrVip)
	refused(t, path(t), syn(plain, 80, 9), api.ErrBackend)
	refused(t, path(t), message(plain, 80, 9), api.ErrNone)
	refused(t, path(t, "c"), packet(t, api.Udp, near, natto, 7, 9, 0), api.ErrAddr)
	for i, q := range []*Path{nil, {}, {Conf: p.Conf, Vips: p.Vips, Set: p.Set, Walker: p.Walker}, {Conf: p.Conf, Vips: p.Vips, Set: p.Set, Pins: p.Pins}, {Conf: p.Conf, Vips: p.Vips, Walker: p.Walker, Pins: p.Pins},
		{Conf: p.Conf, Set: p.Set, Walker: p.Walker, Pins: p.Pins}, {Vips: p.Vips, Set: p.Set, Walker: p.Walker, Pins: p.Pins}} {
		outs, way, e := q.Take(syn(plain, 80, 9))
		if _, _, g := q.Take(nil); g != api.ErrState {
			t.Error("ErrState is first", i, g)
		}
		found, f := q.Find(pkt.Packet{})
		if e != api.ErrState || outs != nil || !reflect.DeepEqual(way, Way{}) || f != api.ErrState || !reflect.DeepEqual(found, Way{}) || q.Key(api.Tuple{}) != 0 {
			t.Error(i, e, f)
		}
	}
	if x := (api.Tuple{Proto: 6, Src: near, Dst: plain, SPort: 1, DPort: 2}); p.Key(x) != flow.Hash(5, x) {
		t.Error("Key")
	}
}

// opened is that what goes out to a host is the packet with a time to live one less, within another one.
func opened(t *testing.T, p *Path, out api.Out, b []byte) {
	t.Helper()
	less, _ := tun.Less(b)
	inner, src, dst, e := tun.Open(out.Bytes)
	to := p.Conf.Node(out.Host).Addr
	self := p.Conf.Self[0]
	if to.V6 {
		self = p.Conf.Self[1]
	}
	if e != api.OK || !bytes.Equal(inner, less) || src != self || dst != to {
		t.Error(e, src, dst)
	}
}

func TestPinned(t *testing.T) { // 32.1, 32.2, 32.3
	for n := range 60 {
		p := path(t, "a", "b", "c", "d")
		b := packet(t, api.Tcp, addr.V4(uint32(n+1)), plain, 80, 9, tcp.Syn)
		was := bytes.Clone(b)
		x, _ := pkt.Parse(b)
		found, _ := p.Find(x)
		if p.Len() != 0 {
			t.Fatal("nothing is pinned by this")
		}
		outs, way, e := p.Take(b)
		want := p.Walker.Host(p.Set, 0, flow.Hash(5, x.Flow))
		if e != api.OK || !reflect.DeepEqual(way, found) || way.Pinned || way.Vip.Port != 80 || !slices.Equal(way.Hosts, []int{want}) || len(outs) != 1 || outs[0].Host != want || !bytes.Equal(b, was) {
			t.Fatal(e, way, want)
		}
		opened(t, p, outs[0], b)
		if got, _ := p.Get(x.Flow); got.Host != want || got.State != conn.Opening {
			t.Fatal("not pinned", got)
		}
		p.Set = elig.New(p.Conf.Tree) // whatever may be picked
		b = packet(t, api.Tcp, addr.V4(uint32(n+1)), plain, 80, 9, tcp.Ack)
		outs, way, e = p.Take(b)
		if got, _ := p.Get(x.Flow); e != api.OK || !way.Pinned || outs[0].Host != want || got.State != conn.Open {
			t.Fatal("pinned", e, way, got)
		}
		back, _ := pkt.Segment(api.Tuple{Proto: api.Tcp, Src: plain, Dst: x.Flow.Src, SPort: 80, DPort: 1000}, 9, 16, nil)
		message, _ := pkt.Unreach(near, 9, back, 99)
		state := p.All()
		outs, way, e = p.Take(message)
		if e != api.OK || outs[0].Host != want || !way.Pinned || !slices.Equal(p.All(), state) {
			t.Fatal("a message of an error", e, way)
		}
		opened(t, p, outs[0], message)
		if _, _, e = p.Take(packet(t, api.Tcp, addr.V4(uint32(n+1)), plain, 80, 9, tcp.Rst)); e != api.OK || p.Len() != 0 {
			t.Fatal("behind Rst", e)
		}
	}
}

func TestLeastTimeToLive(t *testing.T) { // 32.1
	p := path(t, "a")
	outs, _, e := p.Take(packet(t, api.Tcp, near, plain, 80, 2, tcp.Syn))
	if e != api.OK || len(outs) != 1 {
		t.Fatal(e)
	}
	opened(t, p, outs[0], packet(t, api.Tcp, near, plain, 80, 2, tcp.Syn))
}

func TestPinnedToNoHost(t *testing.T) { // 32.1
	p := path(t, "d")
	b := packet(t, api.Tcp, near, plain, 80, 9, tcp.Ack)
	x, _ := pkt.Parse(b)
	for _, host := range []int{0, -1, 99, p.Conf.Find("r1")} {
		p.Pin(x.Flow, host, 0)
		if way, e := p.Find(x); e != api.OK || way.Pinned || !slices.Equal(way.Hosts, []int{p.Conf.Find("d")}) {
			t.Error(host, way, e)
		}
	}
	p.Take(b)
	if p.Pins.Host(x.Flow) != p.Conf.Find("d") {
		t.Error("pinned anew")
	}
}

func TestCopies(t *testing.T) { // 32.1, 32.2
	for n := range 40 {
		p := path(t, "a", "b", "c", "d")
		b := packet(t, api.Udp, addr.V4(uint32(n+1)), plain, 53, 9, 0)
		x, _ := pkt.Parse(b)
		p.Pin(x.Flow, p.Conf.Find("a"), 0)
		was := p.All()
		outs, way, e := p.Take(b)
		want := p.Copies(p.Set, 0, flow.Hash(5, x.Flow), 3, api.Zone)
		if e != api.OK || len(outs) != 3 || !slices.Equal(way.Hosts, want) || way.Pinned || !slices.Equal(p.All(), was) {
			t.Fatal(e, way, want)
		}
		for i, out := range outs {
			if out.Host != want[i] {
				t.Fatal("order")
			}
			opened(t, p, out, b)
		}
	}
}

func TestTwoCopies(t *testing.T) { // 32.2: nothing is pinned then
	p := path(t, "a", "b", "c", "d")
	if outs, _, e := p.Take(packet(t, api.Udp, near, addr.V4(0x0a000003), 53, 9, 0)); e != api.OK || len(outs) != 2 || p.Len() != 0 {
		t.Error(e, len(outs), p.Len())
	}
}

func TestViews(t *testing.T) { // 32.1
	p := path(t, "a", "b", "c", "d")
	for n := range 30 {
		b := packet(t, api.Tcp, addr.V4(uint32(0x09000000+n)), plain, 80, 9, tcp.Syn)
		if _, way, e := p.Take(b); e != api.OK || way.Hosts[0] != p.Conf.Find("d") {
			t.Error(way, e)
		}
		six := packet(t, api.Tcp, addr.V6(1, uint64(n)), addr.V6(0x20010db800000000, 1), n, 9, tcp.Syn)
		if outs, way, e := p.Take(six); e != api.OK || way.Hosts[0] == p.Conf.Find("d") {
			t.Error(way, e)
		} else {
			opened(t, p, outs[0], six)
		}
	}
}

func TestNat(t *testing.T) { // 32.2
	p := path(t, "a")
	b := packet(t, api.Udp, far, natto, 7, 9, 0)
	outs, way, e := p.Take(b)
	less, _ := tun.Less(b)
	want, _ := nat.Turn(less, nat.Dst, addr.V4(0x0a010001), 7)
	if e != api.OK || !way.Vip.Nat || len(outs) != 1 || !bytes.Equal(outs[0].Bytes, want) {
		t.Fatal(e, way)
	}
	back, _ := pkt.Datagram(api.Tuple{Proto: api.Udp, Src: natto, Dst: far, SPort: 7, DPort: 1000}, 9, nil)
	message, _ := pkt.Unreach(near, 9, back, 99)
	outs, _, e = p.Take(message)
	if e != api.OK {
		t.Fatal(e)
	}
	opened(t, p, outs[0], message)
}
