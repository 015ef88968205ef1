package valid

import (
	"slices"
	"testing"

	"distributary/addr"
	"distributary/api"
)

func small() api.Config {
	return api.Config{
		Nodes: []api.Node{
			{Name: "l0", Kind: 1, Above: -1}, {Name: "l1", Kind: 1, Above: -1}, {Name: "z", Kind: 2, Above: 0}, {Name: "r", Kind: 3, Above: 2},
			{Name: "h4", Kind: 4, Above: 3, Weight: 5, Addr: addr.V4(1)}, {Name: "h6", Kind: 4, Above: 3, Weight: 5, Addr: addr.V6(0, 1)},
		},
		Vips:   []api.Vip{{Addr: addr.V4(9), Proto: api.Udp, Port: 53, Copies: 2}, {Addr: addr.V4(9), Proto: api.Tcp, Port: 53, Copies: 1}},
		Views:  []api.View{{Level: 1}, {Prefix: api.Prefix{Addr: addr.V6(0, 0)}, Level: 0}},
		Factor: 140, Domain: api.Zone, Self: [2]api.Addr{addr.V4(7), addr.V6(7, 7)},
	}
}

func TestNew(t *testing.T) { // 19.1
	c := small()
	x, e := New(c)
	if e != api.OK || !Same(x.Config, small()) || x.Len() != 6 || x.Find("h6") != 5 || !slices.Equal(x.Tree.Nodes(), c.Nodes) {
		t.Fatal(e)
	}
	c.Nodes[4].Weight, c.Vips[0].Port, c.Views[0].Level = 99, 99, 0
	if !Same(x.Config, small()) || x.Node(4).Weight != 5 {
		t.Fatal("kept")
	}
}

func TestErrors(t *testing.T) { // 19.1
	bad := api.Addr{Lo: 1 << 32}
	for i, c := range []struct {
		change func(c *api.Config)
		want   api.Errno
	}{
		{func(c *api.Config) { c.Factor, c.Self[0] = 99, bad }, api.ErrRange}, {func(c *api.Config) { c.Factor = 1001 }, api.ErrRange}, {func(c *api.Config) { c.Factor = 100 }, api.OK}, {func(c *api.Config) { c.Factor = 1000 }, api.OK},
		{func(c *api.Config) { c.Domain = api.Level }, api.ErrRange}, {func(c *api.Config) { c.Domain = api.Host }, api.ErrRange}, {func(c *api.Config) { c.Domain = api.Rack }, api.OK}, {func(c *api.Config) { c.Domain = 0 }, api.ErrRange},
		{func(c *api.Config) { c.Self[0], c.Vips = bad, make([]api.Vip, 65) }, api.ErrAddr}, {func(c *api.Config) { c.Self[0] = addr.V6(1, 1) }, api.ErrAddr}, {func(c *api.Config) { c.Self[1] = addr.V4(1) }, api.ErrAddr},
		{func(c *api.Config) { c.Self[1] = api.Addr{Hi: 1} }, api.ErrAddr}, {func(c *api.Config) { c.Self[1] = addr.V6(0, 0) }, api.OK},
		{func(c *api.Config) { c.Vips, c.Nodes = make([]api.Vip, 65), []api.Node{{}} }, api.ErrFull}, {func(c *api.Config) { c.Views = make([]api.View, 65) }, api.ErrFull}, {func(c *api.Config) { c.Vips = make([]api.Vip, 64) }, api.ErrProto},
		{func(c *api.Config) { c.Views = make([]api.View, 64) }, api.ErrTwice}, {func(c *api.Config) { c.Nodes[5].Above, c.Self[0] = 2, api.Addr{} }, api.ErrTree}, {func(c *api.Config) { c.Nodes[5].Name = "" }, api.ErrArg}, {func(c *api.Config) { c.Nodes[0].Weight = 1 }, api.ErrWeight},
		{func(c *api.Config) { c.Self[0], c.Vips[0].Proto = api.Addr{}, 1 }, api.ErrNone}, {func(c *api.Config) { c.Self[1] = api.Addr{} }, api.ErrNone}, {func(c *api.Config) { c.Self[1], c.Nodes = api.Addr{}, c.Nodes[:5] }, api.OK},
		{func(c *api.Config) { c.Self, c.Nodes, c.Views = [2]api.Addr{}, c.Nodes[:4], nil }, api.OK},
		{func(c *api.Config) { c.Vips[1].Addr, c.Vips[1].Proto = bad, 1 }, api.ErrAddr}, {func(c *api.Config) { c.Vips[1].Proto, c.Vips[1].Port = 1, -1 }, api.ErrProto}, {func(c *api.Config) { c.Vips[1].Port = -1 }, api.ErrRange}, {func(c *api.Config) { c.Vips[1].Port = 65536 }, api.ErrRange},
		{func(c *api.Config) { c.Vips[1].Copies = 0 }, api.ErrRange}, {func(c *api.Config) { c.Vips[0].Copies = 9 }, api.ErrRange}, {func(c *api.Config) { c.Vips[1].Copies = 2 }, api.ErrRange}, {func(c *api.Config) { c.Vips[0].Copies = 8 }, api.OK}, {func(c *api.Config) { c.Vips[1].Port = 65535 }, api.OK},
		{func(c *api.Config) { c.Vips[1] = c.Vips[0]; c.Vips[1].Copies = 3 }, api.ErrTwice}, {func(c *api.Config) { c.Vips[1] = c.Vips[0]; c.Vips[1].Port = 0 }, api.OK}, {func(c *api.Config) { c.Vips[0].Copies, c.Vips[1].Proto = 9, 5 }, api.ErrRange},
		{func(c *api.Config) { c.Views[1].Prefix.Bits, c.Views[1].Level = 129, 9 }, api.ErrAddr}, {func(c *api.Config) { c.Views[1].Level = 2 }, api.ErrRange}, {func(c *api.Config) { c.Views[1].Level = -1 }, api.ErrRange}, {func(c *api.Config) { c.Views[1] = api.View{} }, api.ErrTwice},
		{func(c *api.Config) { c.Views[0].Level, c.Vips[0].Port = 9, -1 }, api.ErrRange}, {func(c *api.Config) { c.Vips[0].Proto, c.Views[0].Level = 0, 9 }, api.ErrProto}, {func(c *api.Config) { c.Nodes, c.Views = nil, c.Views[:1] }, api.ErrRange},
	} {
		x := small()
		c.change(&x)
		got, e := New(x)
		if e != c.want || (got == nil) == (e == api.OK) {
			t.Error(i, e, c.want)
		}
	}
}

func TestSame(t *testing.T) { // 19.2
	if !Same(small(), small()) || !Same(api.Config{}, api.Config{Nodes: []api.Node{}, Vips: []api.Vip{}, Views: []api.View{}}) {
		t.Error("alike")
	}
	for i, change := range []func(c *api.Config){
		func(c *api.Config) { c.Factor++ }, func(c *api.Config) { c.Domain++ }, func(c *api.Config) { c.Self[0].Lo++ }, func(c *api.Config) { c.Self[1].Hi++ }, func(c *api.Config) { c.Nodes[1].Name = "x" }, func(c *api.Config) { c.Nodes[5].Weight++ },
		func(c *api.Config) { c.Nodes = c.Nodes[:5] }, func(c *api.Config) { c.Vips[1].Nat = true }, func(c *api.Config) { c.Vips = c.Vips[1:] }, func(c *api.Config) { c.Vips[0], c.Vips[1] = c.Vips[1], c.Vips[0] },
		func(c *api.Config) { c.Views[1].Level++ }, func(c *api.Config) { c.Views = nil }, func(c *api.Config) { c.Views[0], c.Views[1] = c.Views[1], c.Views[0] },
	} {
		x := small()
		change(&x)
		if Same(x, small()) || Same(small(), x) {
			t.Error(i)
		}
	}
}
