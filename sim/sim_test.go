package sim

import (
	"math"
	"reflect"
	"slices"
	"testing"

	"distributary/addr"
	"distributary/api"
	"distributary/audit"
	"distributary/conn"
	"distributary/gen"
	"distributary/health"
	"distributary/step"
	"distributary/trace"
)

const text = `self 10.0.0.254
level l
zone z0 l
zone z1 l
rack r0 z0
rack r1 z1
host b r0 1 10.1.0.1
host a r0 2 10.1.0.2
host c r1 3 10.1.0.3
vip 10.0.0.1 tcp 80
vip 10.0.0.1 udp 53 copies 2
`

func setup() step.Setup {
	return step.Setup{Flows: 100, Seed: 4, Health: health.Rule{Every: 3, Timeout: 2, Rise: 1, Fall: 2}, Conn: conn.Plain()}
}

func plan(proto, port int) gen.Plan {
	return gen.Plan{Key: 8, Clients: 50, Ports: 10, Vip: api.Vip{Addr: addr.V4(0x0a000001), Proto: proto, Port: port}, Most: 20}
}

func simulate(t *testing.T, proto, port int) *Sim {
	t.Helper()
	x, e := New(setup(), text, plan(proto, port))
	if e != api.OK {
		t.Fatal(e)
	}
	return x
}

func TestNew(t *testing.T) { // 46.1
	bad, many := setup(), plan(api.Tcp, 80)
	bad.Flows, many.Clients = 0, 0
	short := setup()
	short.Health.Rise = 0
	for i, c := range []struct {
		s    step.Setup
		conf string
		p    gen.Plan
		want api.Errno
	}{{bad, "x", many, api.ErrArg}, {short, "x", plan(6, 80), api.ErrArg}, {setup(), "x", many, api.ErrArg}, {setup(), "x", plan(6, 80), api.ErrWord}, {setup(), "level l\nview ::/0 3", plan(6, 80), api.ErrRange}, {setup(), "", plan(6, 80), api.OK}} {
		if x, e := New(c.s, c.conf, c.p); e != c.want || (x == nil) == (e == api.OK) {
			t.Error(i, e)
		}
	}
	x := simulate(t, api.Tcp, 80)
	if x.Len() != 1 || x.Count(api.OpConfig, api.OK) != 1 || x.Time() != 0 || x.Sizes().Len() != 0 || len(x.Sick()) != 0 || x.Conf().Len() != 8 || x.Gen() != 1 {
		t.Error("new")
	}
}

func TestSicken(t *testing.T) { // 46.1
	x := simulate(t, api.Tcp, 80)
	x.Sicken(true, "c", "a", "c")
	x.Sicken(true)
	if !slices.Equal(x.Sick(), []string{"a", "c"}) {
		t.Error(x.Sick())
	}
	x.Sicken(true, "b")
	x.Sicken(false, "c", "c")
	if !slices.Equal(x.Sick(), []string{"a", "b"}) {
		t.Error(x.Sick())
	}
	x.Sicken(false, "a", "b", "c")
	if len(x.Sick()) != 0 {
		t.Error(x.Sick())
	}
}

func TestStep(t *testing.T) { // 46.2
	for _, proto := range []int{api.Tcp, api.Udp} {
		port := map[int]int{api.Tcp: 80, api.Udp: 53}[proto]
		x := simulate(t, proto, port)
		m, _ := step.New(setup())
		traffic, _ := gen.New(plan(proto, port))
		var log trace.Log
		sizes := []uint64{}
		do := func(o api.Op) int {
			told := m.Do(o)
			log.Note(o, told)
			for _, out := range told.Outs {
				sizes = append(sizes, uint64(len(out.Bytes)))
			}
			return told.N
		}
		do(api.Op{Kind: api.OpConfig, Data: []byte(text)})
		for n := range 40 {
			sick := n%12 > 5
			x.Sicken(sick, "a", "c")
			want := 0
			do(api.Op{Kind: api.OpTick, N: 1})
			for _, h := range m.Board.Ids() {
				if state, _ := m.Board.Get(h); state.Asked {
					do(api.Op{Kind: api.OpProbe, Host: h, Up: !sick || m.Conf().Node(h).Name == "b"})
				}
			}
			for range n % 7 {
				want += do(api.Op{Kind: api.OpPacket, Data: traffic.Packet()})
			}
			if got := x.Step(n % 7); got != want || x.Time() != n+1 || !reflect.DeepEqual(x.Log, &log) {
				t.Fatal(n, got, want)
			}
			if !audit.Check(x.Machine).OK() {
				t.Fatal("audit")
			}
		}
		all := uint64(0)
		for _, n := range sizes {
			all += n
		}
		least, most := x.Sizes().Ends()
		if x.Sizes().Len() != uint64(len(sizes)) || least != slices.Min(sizes) || most != slices.Max(sizes) || x.Sizes().Mean() != all/uint64(len(sizes)) || len(x.Gone()) == 0 && proto == api.Tcp {
			t.Fatal("sizes")
		}
		if !slices.Equal(x.Pins().All(), m.Pins().All()) || x.Counts().Sum() != m.Counts().Sum() {
			t.Fatal("not the same") // 46.3
		}
	}
}

func TestRun(t *testing.T) { // 46.2, 46.3
	a, b := simulate(t, api.Udp, 53), simulate(t, api.Udp, 53)
	want := 0
	for range 9 {
		want += b.Step(5)
	}
	if got := a.Run(9, 5); got != want || got != 90 || a.Time() != 9 || !reflect.DeepEqual(a.Log, b.Log) || a.Sizes().Len() != 90 {
		t.Error(got, want)
	}
	for _, n := range []int{0, -1, math.MinInt} {
		if a.Run(n, 5) != 0 || a.Time() != 9 {
			t.Error(n)
		}
		time := b.Time()
		if b.Step(n) != 0 || b.Time() != time+1 || b.Run(2, n) != 0 || b.Time() != time+3 {
			t.Error("a step without packets", n)
		}
	}
	if got := a.Step(4096); got != 8192 {
		t.Error(got)
	}
	if got := b.Run(4096, 0); got != 0 || b.Time() != 9+9+4096 {
		t.Error(b.Time())
	}
	if b.Run(math.MaxInt, 0); b.Time() > 18+2*4096 {
		t.Error("too many steps")
	}
	if got := a.Step(math.MaxInt); got > 8192 {
		t.Error("too many packets")
	}
}

func TestAllSick(t *testing.T) { // where all hosts are sick no packet goes out
	x := simulate(t, api.Tcp, 80)
	x.Sicken(true, "a", "b", "c")
	if x.Run(20, 10) != 0 || x.Count(api.OpPacket, api.ErrBackend) != 200 || x.Sizes().Len() != 0 {
		t.Error("a packet goes out")
	}
	x.Sicken(false, "b")
	if x.Run(20, 10) == 0 || len(x.Shares()) != 1 || x.Shares()[0].Host != x.Conf().Find("b") {
		t.Error("b is well", x.Shares())
	}
}

func TestNobody(t *testing.T) { // 46.1, 46.2: a name that no host has changes nothing of what hosts answer
	a, b := simulate(t, api.Udp, 53), simulate(t, api.Udp, 53)
	a.Sicken(true, "nobody", "", "z0")
	if got, want := a.Run(9, 5), b.Run(9, 5); got != want || !reflect.DeepEqual(a.Log, b.Log) {
		t.Error(got, want)
	}
}

func TestNone(t *testing.T) { // 46.2
	for _, x := range []*Sim{nil, {}} {
		x.Sicken(true, "a")
		if len(x.Sick()) != 0 || x.Step(5) != 0 || x.Run(5, 5) != 0 || x.Time() != 0 || x.Sizes() != nil {
			t.Error("none")
		}
	}
}
