package audit

import (
	"slices"
	"testing"

	"distributary/addr"
	"distributary/api"
	"distributary/conn"
	"distributary/flow"
	"distributary/health"
	"distributary/mix"
	"distributary/pkt"
	"distributary/step"
)

const text = `self 10.0.0.254
level l
level m
zone z0 l
zone z1 m
rack r0 z0
rack r1 z1
rack r2 z1
host a r0 1 10.1.0.1
host b r0 2 10.1.0.2
host c r1 3 10.1.0.3
host d r2 0 10.1.0.4
vip 10.0.0.1 tcp 80
vip 10.0.0.1 udp 0
`

func machine(t *testing.T) *step.Machine {
	t.Helper()
	m, e := step.New(step.Setup{Flows: 5, Seed: 1, Health: health.Rule{Every: 2, Timeout: 1, Rise: 1, Fall: 1}, Conn: conn.Rule{Opening: 3, Open: 9, Closing: 4, Udp: 5}})
	if e != api.OK {
		t.Fatal(e)
	}
	return m
}

func well(t *testing.T, names ...string) *step.Machine {
	m := machine(t)
	m.Do(api.Op{Kind: api.OpConfig, Data: []byte(text)})
	m.Do(api.Op{Kind: api.OpTick, N: 1})
	for _, n := range names {
		m.Do(api.Op{Kind: api.OpProbe, Host: m.Conf().Find(n), Up: true})
	}
	return m
}

func tuple(n, proto int) api.Tuple {
	return api.Tuple{Proto: proto, Src: addr.V4(uint32(n)), Dst: addr.V4(0x0a000001), SPort: 5, DPort: 80}
}

func segment(n int) []byte {
	b, _ := pkt.Segment(tuple(n, api.Tcp), 9, 2, nil)
	return b
}

func TestBackends(t *testing.T) { // 40.1
	m := well(t, "a", "b", "c", "d")
	at := m.Conf().Find
	m.Do(api.Op{Kind: api.OpDrain, Name: "b", Up: true})
	if !slices.Equal(Backends(m), []int{at("a"), at("c")}) {
		t.Error(Backends(m))
	}
	for i := -1; i < 20; i++ {
		if Backend(m, i) != (i == at("a") || i == at("c")) {
			t.Error(i)
		}
	}
	for kind, want := range []int{0, 2, 2, 2, 2, 0} {
		if Spread(m, kind) != want {
			t.Error(kind, Spread(m, kind))
		}
	}
	m.Do(api.Op{Kind: api.OpWeight, Name: "d", N: 5})
	m.Do(api.Op{Kind: api.OpProbe, Host: at("a")})
	if Spread(m, api.Rack) != 3 || Spread(m, api.Level) != 2 || Spread(m, api.Host) != 3 || Spread(m, -1) != 0 {
		t.Error("Spread")
	}
	m.Do(api.Op{Kind: api.OpTick, N: 2})
	m.Do(api.Op{Kind: api.OpProbe, Host: at("a")})
	if Spread(m, api.Rack) != 2 || Spread(m, api.Level) != 1 || Backend(m, at("a")) {
		t.Error("one that is down")
	}
	for i, m := range []*step.Machine{nil, {}, machine(t)} {
		if Check(m) != (Told{}) || Backend(m, 7) || len(Backends(m)) != 0 || Spread(m, 4) != 0 {
			t.Error("none", i)
		}
	}
}

func TestCheck(t *testing.T) { // 40.1
	for i, c := range []struct {
		wrong func(m *step.Machine)
		want  Told
	}{
		{func(m *step.Machine) {}, Told{}},
		{func(m *step.Machine) { m.Pins().Pin(tuple(1, 17), m.Conf().Find("a"), 0) }, Told{}},
		{func(m *step.Machine) { m.Pins().Pin(tuple(1, 17), m.Conf().Find("d"), 0) }, Told{Hosts: true}},
		{func(m *step.Machine) { m.Pins().Pin(tuple(1, 17), m.Conf().Find("r1"), 0) }, Told{Hosts: true}},
		{func(m *step.Machine) { m.Pins().Pin(tuple(1, 17), -1, 0) }, Told{Hosts: true}},
		{func(m *step.Machine) { m.Pins().Put(flow.Entry{Host: m.Conf().Find("a"), State: conn.Open, Until: 1}) }, Told{Times: true}},
		{func(m *step.Machine) { m.Pins().Put(flow.Entry{Host: m.Conf().Find("a"), State: conn.Open, Until: 2}) }, Told{}},
		{func(m *step.Machine) {
			m.Pins().Put(flow.Entry{Host: m.Conf().Find("a"), State: conn.Closed, Until: 5})
		}, Told{Times: true}},
		{func(m *step.Machine) { m.Pins().Put(flow.Entry{Host: m.Conf().Find("a"), State: 0, Until: 5}) }, Told{Times: true}},
		{func(m *step.Machine) { m.Board.Set(m.Conf().Find("a")) }, Told{Board: true}},
		{func(m *step.Machine) { m.Board.Set(append(m.Conf().Hosts(), 999)...) }, Told{Board: true}},
	} {
		m := well(t, "a", "b", "c")
		c.wrong(m)
		if got := Check(m); got != c.want || got.OK() != (c.want == Told{}) {
			t.Error(i, got)
		}
	}
	m := well(t, "a")
	for n := range 9 {
		m.Do(api.Op{Kind: api.OpPacket, Data: segment(n)})
	}
	if m.Pins().Len() != 5 || !Check(m).OK() {
		t.Error("as many as may be")
	}
	m = machine(t)
	m.Pins().Pin(tuple(1, 17), 3, 0)
	if Check(m) != (Told{Flows: true}) {
		t.Error("flows without a configuration")
	}
	for _, x := range []Told{{Hosts: true}, {Flows: true}, {Times: true}, {Board: true}, {Loads: true}} {
		if x.OK() {
			t.Error(x)
		}
	}
}

func TestNeverWrong(t *testing.T) { // 40.2
	m := machine(t)
	r := uint64(9)
	for i := range 2500 {
		r = mix.One(r + 1)
		n := int(r >> 20 % 30)
		name := string(rune('a' + n%5))
		o := api.Op{Kind: int(r%11) - 1, N: n % 5, Host: 7 + n%5, Up: r>>40%3 != 0, Name: name}
		switch {
		case o.Kind == api.OpConfig && n%4 == 0:
			o.Data = []byte(text)
		case o.Kind == api.OpConfig && n%4 == 1:
			o.Data = []byte("self 1.1.1.1\nlevel m\nzone z m\nrack r z\nhost c r 1 10.1.0.3\nhost a r 1 10.1.0.1\nvip 10.0.0.1 udp 0\n")
		case o.Kind == api.OpConfig && n%20 == 2:
			o.Data = nil
		case o.Kind == api.OpConfig:
			o.Data = []byte("no configuration")
		default:
			if o.Kind > 7 {
				o.Kind = api.OpPacket
			}
			o.Data, _ = pkt.Segment(tuple(n, api.Tcp), 9, []int{2, 16, 16, 1, 4}[n%5], nil)
			if r>>50%2 == 0 {
				o.Data, _ = pkt.Datagram(tuple(n, api.Udp), 9, nil)
			}
		}
		m.Do(o)
		if x := Check(m); !x.OK() {
			t.Fatal(i, o.Kind, x)
		}
	}
}
