package pin

import (
	"math"
	"slices"
	"testing"

	"distributary/addr"
	"distributary/api"
	"distributary/conn"
	"distributary/flow"
	"distributary/tcp"
)

func tuple(n int) api.Tuple {
	return api.Tuple{Proto: api.Tcp, Src: addr.V4(uint32(n)), Dst: addr.V4(7), SPort: n, DPort: 80}
}

func datagram(n int) api.Tuple {
	x := tuple(n)
	x.Proto = api.Udp
	return x
}

func pins(t *testing.T, most int) *Pins {
	t.Helper()
	p, e := New(most, 3, conn.Rule{Opening: 2, Open: 10, Closing: 5, Udp: 7})
	if e != api.OK {
		t.Fatal(e)
	}
	return p
}

func get(p *Pins, x api.Tuple) flow.Entry {
	e, _ := p.Get(x)
	return e
}

func TestNew(t *testing.T) { // 29.1
	for i, c := range []struct {
		most int
		r    conn.Rule
	}{{1, conn.Rule{}}, {0, conn.Rule{}}, {0, conn.Plain()}, {4097, conn.Plain()}, {-1, conn.Plain()}} {
		if p, e := New(c.most, 1, c.r); p != nil || e != api.ErrArg {
			t.Error(i, e)
		}
	}
	p := pins(t, 4)
	if p.Now() != 0 || p.Len() != 0 || p.Most() != 4 || p.Host(tuple(1)) != -1 {
		t.Error("new")
	}
	if Close != 1 || Idle != 2 || Lost != 3 || Evict != 4 || Again != 5 {
		t.Error("names")
	}
}

func TestPin(t *testing.T) { // 29.2
	p := pins(t, 4)
	for i, c := range []struct {
		x     api.Tuple
		flags int
		state int
		until int64
	}{
		{tuple(1), tcp.Syn, conn.Opening, 102}, {tuple(2), tcp.Ack, conn.Open, 110}, {tuple(3), tcp.Fin, conn.Closing, 105}, {datagram(4), tcp.Rst, conn.Datagram, 107}, {tuple(1), tcp.Ack, conn.Open, 110},
	} {
		p.Go(100)
		gone, ok := p.Pin(c.x, i, c.flags)
		if gone != (Gone{}) || ok || get(p, c.x) != (flow.Entry{Tuple: c.x, Host: i, State: c.state, Until: c.until}) || p.Host(c.x) != i {
			t.Error(i, gone, get(p, c.x))
		}
	}
	if gone, ok := p.Pin(tuple(9), 1, tcp.Rst|tcp.Syn); gone != (Gone{}) || ok || p.Len() != 4 || p.Host(tuple(9)) != -1 {
		t.Error("one that ends with it")
	}
	if p.Pin(tuple(1), 1, tcp.Rst); p.Host(tuple(1)) != 4 {
		t.Error("one that is pinned, that ends with it")
	}
	oldest := get(p, tuple(2))
	if gone, ok := p.Pin(tuple(9), 8, 0); !ok || gone != (Gone{Entry: oldest, Why: Evict}) || p.Host(tuple(2)) != -1 || p.Host(tuple(9)) != 8 {
		t.Error("room", gone)
	}
}

func TestSeen(t *testing.T) { // 29.2
	p := pins(t, 2)
	p.Pin(tuple(1), 5, tcp.Syn)
	p.Pin(tuple(2), 6, tcp.Syn)
	if gone, ok := p.Seen(tuple(3), tcp.Rst); gone != (Gone{}) || ok || p.Len() != 2 {
		t.Error("not pinned")
	}
	p.Go(1)
	if gone, ok := p.Seen(tuple(1), tcp.Ack); gone != (Gone{}) || ok || get(p, tuple(1)) != (flow.Entry{Tuple: tuple(1), Host: 5, State: conn.Open, Until: 11}) || p.All()[0].Tuple != tuple(1) {
		t.Error("Ack", get(p, tuple(1)))
	}
	if gone, _ := p.Pin(tuple(4), 1, 0); gone.Tuple != tuple(2) {
		t.Error("the one that was seen was used last", gone)
	}
	p.Seen(tuple(1), tcp.Fin)
	if e := get(p, tuple(1)); e.State != conn.Closing || e.Until != 6 {
		t.Error("Fin", e)
	}
	if gone, ok := p.Seen(tuple(1), tcp.Rst); !ok || gone != (Gone{Entry: flow.Entry{Tuple: tuple(1), Host: 5, State: conn.Closed, Until: 1}, Why: Close}) || p.Host(tuple(1)) != -1 {
		t.Error("Rst", gone)
	}
}

func TestGo(t *testing.T) { // 29.3
	p := pins(t, 9)
	p.Pin(tuple(1), 1, tcp.Syn)
	p.Pin(tuple(2), 2, tcp.Syn)
	p.Pin(datagram(3), 3, 0)
	if gone, e := p.Go(1); e != api.OK || len(gone) != 0 || p.Now() != 1 {
		t.Error(gone, e)
	}
	two, one := get(p, tuple(2)), get(p, tuple(1))
	if gone, e := p.Go(2); e != api.OK || !slices.Equal(gone, []Gone{{two, Idle}, {one, Idle}}) || p.Len() != 1 {
		t.Error(gone, e)
	}
	for _, now := range []int64{1, -1, math.MinInt64, 1<<40 + 1, math.MaxInt64} {
		if gone, e := p.Go(now); e != api.ErrRange || gone != nil || p.Now() != 2 || p.Len() != 1 {
			t.Error(now, e)
		}
	}
	if gone, e := p.Go(2); e != api.OK || len(gone) != 0 {
		t.Error("the same time")
	}
	if gone, e := p.Go(1 << 40); e != api.OK || len(gone) != 1 || p.Now() != 1<<40 {
		t.Error("the greatest time")
	}
}

func fill(t *testing.T) *Pins {
	p := pins(t, 9)
	for i := range 6 {
		p.Pin(tuple(i), i%3, 0)
	}
	p.Seen(tuple(2), 0)
	return p
}

// order is in which order flows stand, by the ports, and of which hosts.
func order(l []flow.Entry) (ports, hosts []int) {
	for _, e := range l {
		ports, hosts = append(ports, e.Tuple.SPort), append(hosts, e.Host)
	}
	return ports, hosts
}

func entries(l []Gone, why int) []flow.Entry {
	out := []flow.Entry{}
	for _, g := range l {
		if g.Why != why {
			return nil
		}
		out = append(out, g.Entry)
	}
	return out
}

func TestLoseForget(t *testing.T) { // 29.3
	p := fill(t)
	if l := p.Lose(7); len(l) != 0 || len(p.Lose()) != 0 {
		t.Error("no flows", l)
	}
	ports, _ := order(entries(p.Lose(2, 0, 2), Lost))
	left, _ := order(p.All())
	if !slices.Equal(ports, []int{2, 5, 3, 0}) || !slices.Equal(left, []int{4, 1}) {
		t.Error(ports, left)
	}
	ports, _ = order(entries(fill(t).Forget(), Again))
	if !slices.Equal(ports, []int{2, 5, 4, 3, 1, 0}) || len(pins(t, 1).Forget()) != 0 {
		t.Error(ports)
	}
}

func TestRename(t *testing.T) { // 29.3
	p := fill(t)
	gone, _ := order(entries(p.Rename(map[int]int{0: 2, 2: 9, 77: 1}), Lost))
	ports, hosts := order(p.All())
	if !slices.Equal(gone, []int{4, 1}) || !slices.Equal(ports, []int{2, 5, 3, 0}) || !slices.Equal(hosts, []int{9, 9, 2, 2}) {
		t.Error(gone, ports, hosts)
	}
	if l := p.Rename(map[int]int{9: 2, 2: 2}); len(l) != 0 || p.Host(tuple(5)) != 2 {
		t.Error("two that get one number")
	}
	if l := p.Rename(nil); len(l) != 4 || p.Len() != 0 {
		t.Error("none is named")
	}
	p = pins(t, 2)
	p.Pin(tuple(1), 0, 0)
	p.Pin(tuple(2), 0, 0)
	if l := p.Rename(map[int]int{0: 1}); len(l) != 0 || p.Len() != 2 {
		t.Error("full")
	}
}

func TestNone(t *testing.T) { // 29.4
	made := pins(t, 3)
	for i, p := range []*Pins{nil, {}, {Table: made.Table}} {
		gone, e := p.Go(1)
		a, pinned := p.Pin(tuple(1), 1, 0)
		b, seen := p.Seen(tuple(1), tcp.Rst)
		if gone != nil || e != api.ErrState || a != (Gone{}) || pinned || b != (Gone{}) || seen || p.Host(tuple(1)) != -1 || p.Now() != 0 || len(p.Lose(1)) != 0 || len(p.Forget()) != 0 || len(p.Rename(nil)) != 0 || made.Len() != 0 {
			t.Error(i)
		}
	}
}

func TestStays(t *testing.T) { // 29.5
	p := pins(t, 3)
	p.Pin(tuple(1), 4, tcp.Syn)
	for i := range 50 {
		p.Seen(tuple(1), tcp.Ack)
		p.Pin(tuple(i+2), 5, 0)
		if p.Go(int64(i)); p.Host(tuple(1)) != 4 {
			t.Fatal(i)
		}
	}
}
