package step

import (
	"bytes"
	"reflect"
	"slices"
	"strings"
	"testing"

	"distributary/addr"
	"distributary/api"
	"distributary/conf"
	"distributary/conn"
	"distributary/count"
	"distributary/elig"
	"distributary/flow"
	"distributary/health"
	"distributary/mix"
	"distributary/pin"
	"distributary/pkt"
	"distributary/tcp"
	"distributary/tun"
	"distributary/walk"
)

const text = `self 10.0.0.254
level l
zone z0 l
zone z1 l
rack r0 z0
rack r1 z1
host a r0 1 10.1.0.1
host b r0 2 10.1.0.2
host c r1 3 10.1.0.3
host d r1 0 10.1.0.4
vip 10.0.0.1 tcp 80
vip 10.0.0.1 udp 53 copies 4
`

func setup() Setup {
	return Setup{Flows: 50, Seed: 11, Health: health.Rule{Every: 3, Timeout: 2, Rise: 1, Fall: 2}, Conn: conn.Rule{Opening: 20, Open: 100, Closing: 30, Udp: 40}}
}

func machine(t *testing.T) *Machine {
	t.Helper()
	m, e := New(setup())
	if e != api.OK {
		t.Fatal(e)
	}
	return m
}

func told(t *testing.T, m *Machine, o api.Op, want api.Told) {
	t.Helper()
	if got := m.Do(o); got.Err != want.Err || got.N != want.N || len(got.Outs) != len(want.Outs) {
		t.Fatal(o.Kind, got.Err, got.N, len(got.Outs))
	}
}

func config(s string) api.Op            { return api.Op{Kind: api.OpConfig, Data: []byte(s)} }
func tick(n int) api.Op                 { return api.Op{Kind: api.OpTick, N: n} }
func probe(host int, up bool) api.Op    { return api.Op{Kind: api.OpProbe, Host: host, Up: up} }
func drain(name string, up bool) api.Op { return api.Op{Kind: api.OpDrain, Name: name, Up: up} }
func weight(name string, n int) api.Op  { return api.Op{Kind: api.OpWeight, Name: name, N: n} }

func tuple(n, proto int) api.Tuple {
	return api.Tuple{Proto: proto, Src: addr.V4(uint32(0x0b000000 + n)), Dst: addr.V4(0x0a000001), SPort: 5000, DPort: map[int]int{api.Tcp: 80, api.Udp: 53}[proto]}
}

func segment(n, flags int) api.Op {
	b, _ := pkt.Segment(tuple(n, api.Tcp), 9, flags, []byte{7})
	return api.Op{Kind: api.OpPacket, Data: b}
}

func datagram(n int) api.Op {
	b, _ := pkt.Datagram(tuple(n, api.Udp), 9, []byte{7})
	return api.Op{Kind: api.OpPacket, Data: b}
}

// well is a balancer whose hosts are all up, at the time 1.
func well(t *testing.T) *Machine {
	t.Helper()
	m := machine(t)
	told(t, m, config(text), api.Told{N: 1})
	told(t, m, tick(1), api.Told{N: 4})
	for _, h := range m.Conf().Hosts() {
		told(t, m, probe(h, true), api.Told{N: 1})
	}
	return m
}

func place(m *Machine, name string) int { return m.Conf().Find(name) }

func TestNew(t *testing.T) { // 33.1
	for i, c := range []func(s *Setup){func(s *Setup) { s.Flows = 0 }, func(s *Setup) { s.Conn = conn.Rule{} }, func(s *Setup) { s.Health = health.Rule{} }} {
		s := setup()
		c(&s)
		if m, e := New(s); m != nil || e != api.ErrArg {
			t.Error(i, e)
		}
	}
	m := machine(t)
	if m.Conf() != nil || m.Path() != nil || m.Gen() != 0 || m.Board.Now() != 0 || m.Pins().Len() != 0 || m.Pins().Most() != 50 || m.Counts().Sum() != (count.Sum{}) || m.Drained("a") || len(m.Gone()) != 0 || MaxTicks != 10000 {
		t.Error("new")
	}
	for _, o := range []api.Op{segment(1, 2), drain("a", true), weight("a", 1)} {
		told(t, m, o, api.Told{Err: api.ErrState})
	}
	if s := m.Counts().Sum(); s.In != 1 || s.Errs[api.ErrState] != 1 {
		t.Error("a packet without a configuration is counted", s)
	}
	told(t, m, probe(1, true), api.Told{Err: api.ErrNone})
	told(t, m, tick(5), api.Told{})
	told(t, m, api.Op{Kind: api.OpRestart}, api.Told{})
	for _, kind := range []int{0, -1, 8} {
		told(t, m, api.Op{Kind: kind}, api.Told{Err: api.ErrArg})
	}
}

func TestNone(t *testing.T) { // 33.2
	for _, m := range []*Machine{nil, {}} {
		if got := m.Do(tick(1)); got.Err != api.ErrState || m.Conf() != nil || m.Path() != nil || m.Pins() != nil || m.Counts() != nil || m.Drained("a") || len(m.Gone()) != 0 {
			t.Error("no balancer")
		}
		for _, x := range m.Run(tick(1), config(text)) {
			if !reflect.DeepEqual(x, api.Told{Err: api.ErrState}) {
				t.Error(x)
			}
		}
	}
}

func TestPackets(t *testing.T) { // 33.1, 33.3, 33.5
	m := well(t)
	for n := range 40 {
		got := m.Do(segment(n, tcp.Syn))
		key := flow.Hash(11, tuple(n, api.Tcp))
		set := elig.New(m.Conf().Tree, place(m, "a"), place(m, "b"), place(m, "c"))
		want := (&walk.Walker{Factor: 140, Seed: 11}).Host(set, 0, key)
		if got.Err != api.OK || got.N != 1 || len(got.Outs) != 1 || got.Outs[0].Host != want || m.Pins().Host(tuple(n, api.Tcp)) != want {
			t.Fatal(n, got, want)
		}
		inner, _, to, e := tun.Open(got.Outs[0].Bytes)
		less, _ := tun.Less(segment(n, tcp.Syn).Data)
		if e != api.OK || to != m.Conf().Node(want).Addr || !bytes.Equal(inner, less) {
			t.Fatal(e)
		}
	}
	got := m.Do(datagram(1))
	if got.N != 2 || m.Conf().Up(got.Outs[0].Host, api.Zone) == m.Conf().Up(got.Outs[1].Host, api.Zone) || m.Pins().Len() != 40 {
		t.Fatal("copies", got.N)
	}
	size := int64(len(got.Outs[0].Bytes))
	m.Do(api.Op{Kind: api.OpPacket, Data: []byte{0}})
	want := count.Sum{In: 42, Out: 42, Bytes: 40*(size+12) + 2*size}
	want.Errs[0], want.Errs[api.ErrVersion] = 41, 1
	if s := m.Counts().Sum(); s != want {
		t.Fatal(s, want)
	}
}

func TestProbe(t *testing.T) { // 33.1
	m := well(t)
	for n := range 30 {
		m.Do(segment(n, 0))
	}
	a := place(m, "a")
	told(t, m, probe(a, true), api.Told{Err: api.ErrNone})
	told(t, m, probe(99, true), api.Told{Err: api.ErrNone})
	told(t, m, tick(3), api.Told{N: 4})
	told(t, m, probe(a, false), api.Told{})
	had := slices.DeleteFunc(m.Pins().All(), func(e flow.Entry) bool { return e.Host != a })
	told(t, m, tick(3), api.Told{N: 4})
	told(t, m, probe(a, false), api.Told{N: 1})
	if len(had) == 0 || len(m.Gone()) < len(had) {
		t.Fatal("flows are lost", len(had), len(m.Gone()))
	}
	for i, g := range m.Gone()[:len(had)] {
		if g != (pin.Gone{Entry: had[i], Why: pin.Lost}) {
			t.Fatal(g)
		}
	}
	for n := range 30 {
		if got := m.Do(segment(n, 0)); got.Outs[0].Host == a {
			t.Fatal("a host that is down")
		}
	}
	told(t, m, tick(2), api.Told{})
	told(t, m, tick(1), api.Told{N: 4})
	gone := len(m.Gone())
	told(t, m, probe(a, true), api.Told{N: 1})
	if len(m.Gone()) != gone {
		t.Fatal("one that turned, and is up, loses nothing")
	}
}

func TestTicks(t *testing.T) { // 33.1
	m := well(t)
	for _, n := range []int{-1, 10001, 1 << 62} {
		told(t, m, tick(n), api.Told{Err: api.ErrRange})
	}
	told(t, m, tick(0), api.Told{})
	if m.Board.Now() != 1 || m.Pins().Now() != 1 {
		t.Fatal("the time")
	}
	for n := range 20 {
		m.Do(segment(n, tcp.Syn)) // until 21
	}
	// Asked at 4, 7; down, for want of two answers, at 9.
	told(t, m, tick(7), api.Told{N: 8})
	if m.Pins().Len() != 20 || len(m.Board.Up()) != 4 {
		t.Fatal("at 8")
	}
	all := m.Pins().All()
	told(t, m, tick(1), api.Told{})
	if m.Pins().Len() != 0 || len(m.Board.Up()) != 0 || len(m.Gone()) != 20 || m.Pins().Now() != 9 {
		t.Fatal("at 9", m.Pins().Len())
	}
	at := 0
	for _, h := range m.Conf().Hosts() {
		for _, e := range all {
			if e.Host == h {
				if m.Gone()[at] != (pin.Gone{Entry: e, Why: pin.Lost}) {
					t.Fatal("by the hosts, in order")
				}
				at++
			}
		}
	}
	told(t, m, segment(1, tcp.Syn), api.Told{Err: api.ErrBackend})
	m = machine(t)
	told(t, m, config(strings.Replace(text, "host d", "# ", 1)), api.Told{N: 1})
	told(t, m, tick(10000), api.Told{N: 3 * 3334})
}

func TestIdle(t *testing.T) { // 33.1, 33.5
	m := well(t)
	answer := func() {
		for _, h := range m.Board.Ids() {
			m.Do(probe(h, true))
		}
	}
	m.Do(segment(1, tcp.Syn))
	m.Do(segment(2, tcp.Ack))
	host := m.Pins().Host(tuple(2, api.Tcp))
	for m.Board.Now() < 20 {
		m.Do(tick(1))
		answer()
	}
	if m.Pins().Len() != 2 {
		t.Fatal("at 20")
	}
	m.Do(tick(1))
	answer()
	if g := m.Gone(); len(g) != 1 || g[0].Why != pin.Idle || g[0].Tuple != tuple(1, api.Tcp) || m.Pins().Host(tuple(2, api.Tcp)) != host {
		t.Fatal(g)
	}
	m.Gone()[0].Why = 99
	if m.Gone()[0].Why != pin.Idle {
		t.Fatal("shared")
	}
	m.Do(segment(2, tcp.Rst))
	if len(m.Gone()) != 1 || m.Pins().Len() != 0 {
		t.Fatal("by OpPacket none is noted")
	}
}

func TestConfig(t *testing.T) { // 33.1, 33.4
	m := well(t)
	for n := range 40 {
		m.Do(segment(n, 0))
	}
	told(t, m, drain("a", true), api.Told{})
	told(t, m, drain("b", true), api.Told{})
	told(t, m, drain("c", true), api.Told{})
	was, all, asked := m.Conf(), m.Pins().All(), m.Board.All()
	told(t, m, config(text+"factor 9"), api.Told{Err: api.ErrRange, N: 13})
	told(t, m, config("level l\nview ::/0 3"), api.Told{Err: api.ErrRange})
	if m.Conf() != was || !slices.Equal(m.Pins().All(), all) || !slices.Equal(m.Board.All(), asked) || m.Gen() != 1 {
		t.Fatal("what is refused")
	}
	// Host a is elsewhere, b has another address, c is no host, d is gone, e is new.
	next := "self 10.0.0.254\nlevel m\nlevel l\nzone z l\nrack r z\nrack c z\nhost e r 1 10.1.0.4\nhost b r 1 10.1.0.9\nhost a r 1 10.1.0.1\nvip 10.0.0.1 tcp 80\n"
	olds := map[string]int{"a": place(m, "a"), "b": place(m, "b"), "c": place(m, "c")}
	told(t, m, config(next), api.Told{N: 2})
	a := place(m, "a")
	if !slices.Equal(m.Board.Up(), []int{a}) || !slices.Equal(m.Board.Ids(), m.Conf().Hosts()) {
		t.Fatal(m.Board.Up(), m.Board.Ids())
	}
	kept, lost := []flow.Entry{}, []pin.Gone{}
	for _, e := range all {
		if e.Host == olds["a"] {
			e.Host = a
			kept = append(kept, e)
		} else {
			lost = append(lost, pin.Gone{Entry: e, Why: pin.Lost})
		}
	}
	if len(kept) == 0 || len(lost) == 0 || !slices.Equal(m.Pins().All(), kept) || !slices.Equal(m.Gone(), lost) {
		t.Fatal("flows", len(kept), len(lost))
	}
	if !m.Drained("a") || !m.Drained("b") || m.Drained("c") {
		t.Fatal("drained")
	}
	told(t, m, tick(1), api.Told{N: 2}) // the new ones
	told(t, m, tick(2), api.Told{N: 1}) // a, as it was due: at 4
}

func TestFactor(t *testing.T) { // 33.1: the path's walker has the Factor of the configuration
	m := well(t)
	a := m.Path()
	if a.Factor != 140 || a.Seed != 11 || a.Conf != m.Conf() || a.Pins != m.Pins() || len(a.Vips.List()) != 2 || !slices.Equal(a.Set.List(), m.Board.Up()[:3]) {
		t.Fatal("path")
	}
	m.Do(config("factor 900\n" + strings.Replace(text, "tcp 80", "tcp 81", 1)))
	if b := m.Path(); b.Factor != 900 || b.Vips.List()[0].Port != 81 || b.Conf != m.Conf() || a.Factor != 140 {
		t.Fatal("another configuration")
	}
	m.Do(config(text))
	if b := m.Path(); b.Factor != 140 || b.Vips.List()[0].Port != 80 {
		t.Fatal("and back")
	}
}

func TestDrainWeight(t *testing.T) { // 33.1, 33.3
	m := well(t)
	for _, c := range []struct {
		o    api.Op
		want api.Errno
	}{
		{drain("x", true), api.ErrNone}, {drain("r0", true), api.ErrNone}, {drain("", false), api.ErrNone}, {drain("a", false), api.ErrTwice}, {drain("a", true), api.OK}, {drain("a", true), api.ErrTwice}, {drain("b", true), api.OK},
		{weight("x", 1), api.ErrNone}, {weight("r0", 1), api.ErrNone}, {weight("c", 65536), api.ErrWeight}, {weight("x", -1), api.ErrWeight},
	} {
		told(t, m, c.o, api.Told{Err: c.want})
	}
	m.Do(segment(0, 0))
	for n := range 30 {
		if got := m.Do(segment(n, 0)); got.Outs[0].Host != place(m, "c") {
			t.Fatal("drained hosts")
		}
	}
	told(t, m, weight("d", 65535), api.Told{N: 2})
	told(t, m, weight("c", 0), api.Told{N: 3})
	if got := m.Do(segment(77, 0)); got.Outs[0].Host != place(m, "d") {
		t.Fatal("weights")
	}
	if got := m.Do(segment(1, 0)); got.Outs[0].Host != place(m, "c") {
		t.Fatal("one that is pinned stays")
	}
	told(t, m, weight("d", 0), api.Told{N: 4})
	told(t, m, segment(99, 0), api.Told{Err: api.ErrBackend})
	told(t, m, drain("a", false), api.Told{})
	if got := m.Do(segment(99, 0)); got.Outs[0].Host != place(m, "a") || m.Drained("a") || !m.Drained("b") {
		t.Fatal("drained no more")
	}
}

func TestRestart(t *testing.T) { // 33.1, 33.5
	m := well(t)
	hosts := []int{}
	for n := range 30 {
		hosts = append(hosts, m.Do(segment(n, 0)).Outs[0].Host)
	}
	all := m.Pins().All()
	told(t, m, api.Op{Kind: api.OpRestart}, api.Told{N: 30})
	if m.Pins().Len() != 0 || len(m.Gone()) != 30 || m.Gone()[0] != (pin.Gone{Entry: all[0], Why: pin.Again}) {
		t.Fatal("restart")
	}
	for n, h := range hosts {
		if m.Do(segment(n, 0)).Outs[0].Host != h {
			t.Fatal("behind a restart")
		}
	}
}

func TestRun(t *testing.T) { // 33.1, G1: the same script comes to the same
	ops := []api.Op{config(text), tick(1)}
	r := uint64(5)
	for range 1500 {
		r = mix.One(r + 1)
		n := int(r >> 20 % 70)
		switch r % 12 {
		case 0:
			ops = append(ops, tick(n%4))
		case 1:
			ops = append(ops, probe(5+n%7, r>>40%4 != 0))
		case 2:
			ops = append(ops, drain(string(rune('a'+n%5)), r>>40%2 == 0))
		case 3:
			ops = append(ops, weight(string(rune('a'+n%5)), n%4))
		case 4:
			if n%16 == 0 {
				ops = append(ops, config(strings.Replace(text, "host a", "host "+string(rune('a'+r>>50%2*4)), 1)), api.Op{Kind: api.OpRestart})
			}
		case 5:
			ops = append(ops, datagram(n))
		default:
			ops = append(ops, segment(n, []int{tcp.Syn, tcp.Ack, tcp.Ack, tcp.Fin, tcp.Rst}[n%5]))
		}
	}
	a, b := machine(t), machine(t)
	x := a.Run(ops...)
	for i, o := range ops {
		pinned := -1
		if o.Kind == api.OpPacket && b.Conf() != nil {
			p, _ := pkt.Parse(o.Data)
			pinned = b.Pins().Host(p.Key())
		}
		can := []int{}
		if b.Conf() != nil {
			for _, h := range b.Board.Up() {
				if n := b.Conf().Node(h); !b.Drained(n.Name) && n.Weight > 0 {
					can = append(can, h)
				}
			}
		}
		y := b.Do(o)
		if !reflect.DeepEqual(x[i], y) {
			t.Fatal("not the same", i)
		}
		if o.Kind != api.OpPacket {
			continue
		}
		if pinned >= 0 && (y.N != 1 || y.Outs[0].Host != pinned) || pinned < 0 && (y.Err == api.ErrBackend) != (len(can) == 0) {
			t.Fatal("pinned, or backend", i, y.Err, pinned, can)
		}
		for _, out := range y.Outs {
			if pinned < 0 && !slices.Contains(can, out.Host) {
				t.Fatal("may not be picked", i)
			}
		}
	}
	if len(x) != len(ops) || conf.Text(a.Conf().Config) != conf.Text(b.Conf().Config) || !slices.Equal(a.Pins().All(), b.Pins().All()) || !slices.Equal(a.Gone(), b.Gone()) || a.Counts().Sum() != b.Counts().Sum() || !reflect.DeepEqual(a.Board.Ids(), b.Board.Ids()) {
		t.Fatal("not the same in the end")
	}
}
