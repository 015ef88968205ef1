package gen

import (
	"bytes"
	"math"
	"slices"
	"testing"

	"distributary/addr"
	"distributary/api"
	"distributary/mix"
	"distributary/pkt"
	"distributary/tcp"
)

func plan(v6 bool, proto int) Plan {
	v := api.Vip{Addr: addr.V4(0x0a0a0a0a), Proto: proto, Port: 80}
	if v6 {
		v.Addr = addr.V6(1, 9)
	}
	return Plan{Key: 42, Clients: 100, Ports: 50, Vip: v, Most: 30}
}

func TestRight(t *testing.T) { // 35.1
	for i, c := range []struct {
		change func(p *Plan)
		want   bool
	}{
		{func(p *Plan) {}, true}, {func(p *Plan) { p.Clients = 0 }, false}, {func(p *Plan) { p.Clients, p.Ports = 1, 1 }, true}, {func(p *Plan) { p.Clients = 65536 }, true}, {func(p *Plan) { p.Clients = 65537 }, false}, {func(p *Plan) { p.Ports = 0 }, false}, {func(p *Plan) { p.Ports = 32768 }, true},
		{func(p *Plan) { p.Ports = 32769 }, false}, {func(p *Plan) { p.Most = -1 }, false}, {func(p *Plan) { p.Most = 0 }, true}, {func(p *Plan) { p.Most = 1400 }, true}, {func(p *Plan) { p.Most = 1401 }, false}, {func(p *Plan) { p.Vip.Addr.Lo = 1 << 32 }, false},
		{func(p *Plan) { p.Vip.Proto = 1 }, false}, {func(p *Plan) { p.Vip.Port = -1 }, false}, {func(p *Plan) { p.Vip.Port = 0 }, true}, {func(p *Plan) { p.Vip.Port = 65535 }, true}, {func(p *Plan) { p.Vip.Port = 65536 }, false}, {func(p *Plan) { p.Vip.Copies = -9 }, true},
	} {
		p := plan(false, api.Tcp)
		c.change(&p)
		s, e := New(p)
		if Right(p) != c.want || (e == api.OK) != c.want || (s != nil) != c.want || !c.want && e != api.ErrArg {
			t.Error(i, e)
		}
	}
}

// next is the next flow, as the chapter says, of numbers.
func next(p Plan, g *mix.Gen) api.Tuple {
	n := mix.Below(g.Next(), p.Clients)
	src := api.Addr{Lo: 0x0a000001 + uint64(n)}
	if p.Vip.Addr.V6 {
		src = api.Addr{V6: true, Hi: 0x20010db800000000, Lo: 1 + uint64(n)}
	}
	return api.Tuple{Proto: p.Vip.Proto, Src: src, Dst: p.Vip.Addr, SPort: 32768 + mix.Below(g.Next(), p.Ports), DPort: p.Vip.Port}
}

func payload(p Plan, g *mix.Gen) []byte {
	b := []byte{}
	for range mix.Below(g.Next(), p.Most+1) {
		b = append(b, byte(g.Next()))
	}
	return b
}

func TestPackets(t *testing.T) { // 35.1, 35.2
	for _, v6 := range []bool{false, true} {
		for _, proto := range []int{api.Tcp, api.Udp} {
			p := plan(v6, proto)
			s, _ := New(p)
			g := mix.NewGen(p.Key)
			open := []api.Tuple{}
			for i := range 3000 {
				var want []byte
				if proto == api.Udp {
					f := next(p, g)
					want, _ = pkt.Datagram(f, 64, payload(p, g))
				} else {
					what := mix.Below(g.Next(), 4)
					var f api.Tuple
					flags := tcp.Ack
					if len(open) == 0 || what == 0 && len(open) < 256 {
						f, flags = next(p, g), tcp.Syn
						open = append(open, f)
					} else {
						at := mix.Below(g.Next(), len(open))
						f = open[at]
						if what == 1 {
							flags = tcp.Ack | tcp.Fin
							open = slices.Delete(open, at, at+1)
						}
					}
					want, _ = pkt.Segment(f, 64, flags, payload(p, g))
				}
				got := s.Packet()
				if !bytes.Equal(got, want) || s.Open() != len(open) {
					t.Fatal(v6, proto, i)
				}
				if x, e := pkt.Parse(got); e != api.OK || x.Flow.Dst != p.Vip.Addr || x.Flow.DPort != p.Vip.Port || x.TTL != 64 || i == 0 && proto == api.Tcp && !x.Opens() {
					t.Fatal(x, e)
				}
			}
			if f := next(p, g); s.Flow() != f {
				t.Fatal("Flow")
			}
			if s.Next() != g.Next() {
				t.Fatal("numbers are embedded")
			}
		}
	}
}

func TestTake(t *testing.T) { // 35.1
	a, _ := New(plan(false, api.Tcp))
	b, _ := New(plan(false, api.Tcp))
	l := a.Take(50)
	for i := range 50 {
		if len(l) != 50 || !bytes.Equal(l[i], b.Packet()) {
			t.Fatal(i)
		}
	}
	if len(a.Take(0)) != 0 || len(a.Take(-1)) != 0 || len(a.Take(math.MinInt)) != 0 || !bytes.Equal(a.Packet(), b.Packet()) {
		t.Fatal("none")
	}
	few := plan(false, api.Udp)
	few.Most = 0
	c, _ := New(few)
	if len(c.Take(65536)) != 65536 || len(c.Take(65537)) > 65536 || len(c.Take(math.MaxInt)) > 65536 {
		t.Fatal("many")
	}
}

func TestMaxOpen(t *testing.T) { // 35.1: no more than 256
	p := plan(false, api.Tcp)
	p.Most = 0
	s, _ := New(p)
	most := 0
	s.open = make([]api.Tuple, 255)
	for i := range s.open {
		s.open[i] = p.flow()
	}
	for range 20000 {
		s.Packet()
		if len(s.open) < 250 {
			s.open = append(s.open, p.flow())
		}
		most = max(most, s.Open())
	}
	if most != 256 || MaxOpen != 256 {
		t.Error(most)
	}
}

// flow is a flow that the plan's traffic may have.
func (p Plan) flow() api.Tuple {
	return api.Tuple{Proto: p.Vip.Proto, Src: addr.V4(1), Dst: p.Vip.Addr, SPort: 40000, DPort: p.Vip.Port}
}

func TestNone(t *testing.T) { // 35.1
	for _, s := range []*Source{nil, {}, {Gen: mix.NewGen(1)}} {
		if s.Flow() != (api.Tuple{}) || len(s.Packet()) != 0 || s.Open() != 0 || len(s.Take(5)) != 0 {
			t.Error("no traffic")
		}
	}
}
