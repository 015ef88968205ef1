package report

import (
	"strings"
	"testing"

	"distributary/addr"
	"distributary/api"
	"distributary/conn"
	"distributary/flow"
	"distributary/health"
	"distributary/pkt"
	"distributary/step"
)

const text = `self 10.0.0.254
level l
level m
zone z0 l
zone z1 m
rack r0 z0
rack r1 z1
host a r0 1 10.1.0.1
host b r0 20 10.1.0.2
host c r1 3 10.1.0.3
vip 10.0.0.1 tcp 80
vip 10.0.0.1 udp 0
`

func machine(t *testing.T) *step.Machine {
	t.Helper()
	m, e := step.New(step.Setup{Flows: 5, Seed: 1, Health: health.Rule{Every: 50, Timeout: 49, Rise: 1, Fall: 1}, Conn: conn.Rule{Opening: 30, Open: 90, Closing: 40, Udp: 50}})
	if e != api.OK {
		t.Fatal(e)
	}
	return m
}

func TestTuple(t *testing.T) { // 42.1
	for i, c := range []struct {
		x    api.Tuple
		want string
	}{
		{api.Tuple{Proto: 6, Src: addr.V4(0x0a000001), Dst: addr.V6(0, 1), SPort: 0, DPort: 65535}, "tcp 10.0.0.1 0 ::1 65535"}, {api.Tuple{Proto: 17, SPort: 5, DPort: 53}, "udp 0.0.0.0 5 0.0.0.0 53"},
		{api.Tuple{Proto: 7}, "proto7 0.0.0.0 0 0.0.0.0 0"}, {api.Tuple{Proto: 0, SPort: -1}, "proto0 0.0.0.0 0 0.0.0.0 0"}, {api.Tuple{Proto: 255}, "proto255 0.0.0.0 0 0.0.0.0 0"},
	} {
		if got := Tuple(c.x); got != c.want {
			t.Error(i, got)
		}
	}
}

func TestNew(t *testing.T) { // 42.2
	m := machine(t)
	if got := Of(m); got != "gen 0 flows 0\nin 0 out 0 bytes 0\n" {
		t.Error(got)
	}
	if Hosts(m) != "" || Loads(m) != "" || Flows(m) != "" || Counts(m) != "in 0 out 0 bytes 0\n" {
		t.Error("without a configuration")
	}
	m.Pins().Pin(api.Tuple{Proto: api.Udp}, 3, 0)
	if got := Flows(m); strings.Join(strings.Fields(got), " ") != "flow udp 0.0.0.0 0 0.0.0.0 0 datagram 50" {
		t.Error(got)
	}
	for i, m := range []*step.Machine{nil, {}} {
		if Hosts(m) != "" || Loads(m) != "" || Flows(m) != "" || Of(m) != "" || Counts(m) != "in 0 out 0 bytes 0\n" {
			t.Error("nil", i)
		}
	}
}

func TestStates(t *testing.T) { // 42.1, 28.1
	m := machine(t)
	m.Do(api.Op{Kind: api.OpConfig, Data: []byte(text)})
	host := m.Conf().Find("a")
	for state, want := range map[int]string{-1: "none", 0: "none", conn.Opening: "opening", conn.Open: "open", conn.Closing: "closing", conn.Closed: "closed", conn.Datagram: "datagram", 6: "none"} {
		m.Pins().Put(flow.Entry{Tuple: api.Tuple{Proto: api.Udp}, Host: host, State: state, Until: 7})
		if got := Flows(m); got != "flow udp 0.0.0.0 0 0.0.0.0 0 a "+want+" 7\n" {
			t.Error(state, got)
		}
	}
}

func TestAll(t *testing.T) { // 42.1, 42.2
	m := machine(t)
	m.Do(api.Op{Kind: api.OpConfig, Data: []byte(text)})
	m.Do(api.Op{Kind: api.OpTick, N: 1})
	for _, n := range []string{"a", "c"} {
		m.Do(api.Op{Kind: api.OpProbe, Host: m.Conf().Find(n), Up: true})
	}
	m.Do(api.Op{Kind: api.OpDrain, Name: "b", Up: true})
	m.Do(api.Op{Kind: api.OpWeight, Name: "c", N: 0})
	hosts := "host a up weight 1\nhost b down weight 20 drained\nhost c up weight 0\n"
	if got := Hosts(m); got != hosts {
		t.Error(got)
	}
	loads := "load 0 10000 0\nload 1 0 10000\n"
	if got := Loads(m); got != loads {
		t.Error(got)
	}
	syn, _ := pkt.Segment(api.Tuple{Proto: api.Tcp, Src: addr.V4(9), Dst: addr.V4(0x0a000001), SPort: 7, DPort: 80}, 9, 2, nil)
	dgram, _ := pkt.Datagram(api.Tuple{Proto: api.Udp, Src: addr.V4(9), Dst: addr.V4(0x0a000001), SPort: 7, DPort: 80}, 9, nil)
	m.Do(api.Op{Kind: api.OpPacket, Data: syn})
	m.Do(api.Op{Kind: api.OpPacket, Data: dgram})
	m.Do(api.Op{Kind: api.OpPacket})
	flows := "flow udp 0.0.0.9 7 10.0.0.1 80 a datagram 51\nflow tcp 0.0.0.9 7 10.0.0.1 80 a opening 31\n"
	if got := Flows(m); got != flows {
		t.Error(got)
	}
	counts := "in 3 out 2 bytes 108\nerr 0 2\nerr 2 1\n"
	if got := Counts(m); got != counts {
		t.Error(got)
	}
	if got := Of(m); got != "gen 2 flows 2\n"+hosts+loads+flows+counts {
		t.Error(got)
	}
	m.Pins().Pin(api.Tuple{Proto: api.Udp}, m.Conf().Find("r0"), 0)
	if got, _, _ := strings.Cut(Flows(m), "\n"); strings.Join(strings.Fields(got), " ") != "flow udp 0.0.0.0 0 0.0.0.0 0 datagram 51" {
		t.Error(got)
	}
}
