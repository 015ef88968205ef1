package tree

import (
	"math"
	"slices"
	"strconv"
	"strings"
	"testing"

	"distributary/addr"
	"distributary/api"
)

func small() []api.Node {
	return []api.Node{
		{Name: "l0", Kind: api.Level, Above: -1},
		{Name: "z0", Kind: api.Zone, Above: 0},
		{Name: "r0", Kind: api.Rack, Above: 1, Weight: 7},
		{Name: "h0", Kind: api.Host, Above: 2, Weight: 3, Addr: addr.V4(1)},
		{Name: "l1", Kind: api.Level, Above: -1},
		{Name: "z1", Kind: api.Zone, Above: 4},
		{Name: "r1", Kind: api.Rack, Above: 5},
		{Name: "h1", Kind: api.Host, Above: 2, Weight: 0, Addr: addr.V6(0, 1)},
		{Name: "h2", Kind: api.Host, Above: 6, Weight: 65535, Addr: addr.V4(2)},
		{Name: "z2", Kind: api.Zone, Above: 0},
	}
}

func TestName(t *testing.T) { // 16.1
	for _, s := range []string{"a", "Z", "0", "-", "_", ".", "az-AZ_09.", strings.Repeat("x", 32)} {
		if !Name(s) {
			t.Error(s)
		}
	}
	for _, s := range []string{"", "a b", "a/", "a#", "é", "a\x00", "a:", "@", "[", "`", "{", strings.Repeat("x", 33), strings.Repeat("x", 1<<20)} {
		if Name(s) {
			t.Error(s)
		}
	}
}

func TestTells(t *testing.T) { // 16.2, 16.3, 16.4
	l := small()
	x, at, e := New(l...)
	if e != api.OK || at != 0 || x.Len() != 10 || !slices.Equal(x.Nodes(), l) {
		t.Fatal(e, at)
	}
	l[3].Name = "changed"
	x.Nodes()[2].Name = "changed"
	x.Kids(2)[0] = 99
	if x.Node(3).Name != "h0" || x.Node(2).Name != "r0" || x.Kids(2)[0] != 3 {
		t.Fatal("shared")
	}
	if x.Node(-1) != (api.Node{}) || x.Node(10) != (api.Node{}) || x.Node(9).Name != "z2" {
		t.Fatal("Node")
	}
	for i, want := range map[int][]int{0: {1, 9}, 1: {2}, 2: {3, 7}, 3: nil, 4: {5}, 5: {6}, 6: {8}, 9: nil, -1: nil, 10: nil, math.MinInt: nil} {
		if !slices.Equal(x.Kids(i), want) {
			t.Error("Kids", i, x.Kids(i))
		}
	}
	for i, want := range map[int][]int{0: {3, 7}, 1: {3, 7}, 2: {3, 7}, 3: {3}, 4: {8}, 8: {8}, 9: nil, -1: nil, 10: nil} {
		if !slices.Equal(x.Below(i), want) {
			t.Error("Below", i, x.Below(i))
		}
	}
	if !slices.Equal(x.Levels(), []int{0, 4}) || !slices.Equal(x.Hosts(), []int{3, 7, 8}) {
		t.Error("Levels, Hosts")
	}
	for i, n := range small() {
		if x.Find(n.Name) != i {
			t.Error("Find", n.Name)
		}
	}
	if x.Find("") != -1 || x.Find("H0") != -1 {
		t.Error("Find of none")
	}
	for _, c := range [][3]int{{3, 4, 3}, {3, 3, 2}, {3, 2, 1}, {3, 1, 0}, {8, 1, 4}, {0, 1, 0}, {0, 2, -1}, {2, 4, -1}, {3, 0, -1}, {3, 5, -1}, {-1, 1, -1}, {10, 1, -1}} {
		if got := x.Up(c[0], c[1]); got != c[2] {
			t.Error("Up", c, got)
		}
	}
	for i, want := range map[int]int{0: 0, 3: 0, 7: 0, 9: 0, 4: 1, 8: 1, -1: -1, 10: -1} {
		if x.Level(i) != want {
			t.Error("Level", i, x.Level(i))
		}
	}
}

func TestNil(t *testing.T) { // 16.3
	for _, x := range []*Tree{nil, {}} {
		if x.Len() != 0 || x.Node(0) != (api.Node{}) || len(x.Nodes()) != 0 || len(x.Kids(0)) != 0 || len(x.Kids(-1)) != 0 || len(x.Levels()) != 0 || len(x.Hosts()) != 0 ||
			x.Find("a") != -1 || x.Up(0, 1) != -1 || len(x.Below(0)) != 0 || x.Level(0) != -1 {
			t.Error("nil")
		}
	}
	if x, at, e := New(); x == nil || at != 0 || e != api.OK || x.Len() != 0 {
		t.Error("of none")
	}
}

func TestWhy(t *testing.T) { // 16.1
	bad := api.Addr{Lo: 1 << 32}
	for i, c := range []struct {
		n    api.Node
		want api.Errno
	}{
		{api.Node{Name: "", Kind: 1, Above: -1}, api.ErrArg}, {api.Node{Name: "a b", Kind: 9, Weight: -1}, api.ErrArg}, {api.Node{Name: "a", Kind: 0, Above: -1}, api.ErrArg}, {api.Node{Name: "a", Kind: 5, Above: 3, Weight: -1}, api.ErrArg},
		{api.Node{Name: "a", Kind: 1, Above: 0, Weight: 1}, api.ErrWeight}, {api.Node{Name: "a", Kind: 2, Above: 9, Weight: 65536}, api.ErrWeight}, {api.Node{Name: "a", Kind: 4, Above: 2, Weight: -1}, api.ErrWeight},
		{api.Node{Name: "a", Kind: 1, Above: 0}, api.ErrTree}, {api.Node{Name: "a", Kind: 2, Above: -1, Addr: bad}, api.ErrTree}, {api.Node{Name: "a", Kind: 2, Above: 1}, api.ErrTree}, {api.Node{Name: "a", Kind: 4, Above: 1}, api.ErrTree},
		{api.Node{Name: "a", Kind: 3, Above: 0}, api.ErrTree}, {api.Node{Name: "a", Kind: 2, Above: 10}, api.ErrTree}, {api.Node{Name: "a", Kind: 2, Above: 11}, api.ErrTree}, {api.Node{Name: "a", Kind: 4, Above: math.MaxInt}, api.ErrTree},
		{api.Node{Name: "a", Kind: 4, Above: 3}, api.ErrTree}, {api.Node{Name: "l0", Kind: 2, Above: 0, Addr: addr.V4(1)}, api.ErrAddr}, {api.Node{Name: "h0", Kind: 4, Above: 2, Addr: bad}, api.ErrAddr}, {api.Node{Name: "a", Kind: 1, Above: -1, Addr: addr.V6(0, 0)}, api.ErrAddr},
		{api.Node{Name: "h0", Kind: 4, Above: 2, Addr: addr.V4(9)}, api.ErrTwice}, {api.Node{Name: "l0", Kind: 4, Above: 2, Addr: addr.V4(9)}, api.ErrTwice}, {api.Node{Name: "a", Kind: 4, Above: 2, Addr: addr.V4(1)}, api.ErrTwice},
		{api.Node{Name: "h0", Kind: 1, Above: -1}, api.ErrTwice}, {api.Node{Name: "a", Kind: 4, Above: 2}, api.OK}, {api.Node{Name: "a", Kind: 4, Above: 6, Addr: addr.V6(0, 2), Weight: 65535}, api.OK}, {api.Node{Name: "a", Kind: 2, Above: 4, Weight: 65535}, api.OK},
	} {
		x, at, e := New(append(small(), c.n, api.Node{})...)
		want, place := c.want, 10
		if want == api.OK {
			want, place = api.ErrArg, 11
		}
		if e != want || at != place || x != nil {
			t.Error(i, e, at)
		}
	}
}

// many are levels, zones, racks and hosts, so many each.
func many(levels, zones, racks, hosts int) []api.Node {
	l := []api.Node{}
	add := func(n, kind, above int) {
		for i := range n {
			x := api.Node{Name: strconv.Itoa(kind) + "-" + strconv.Itoa(i), Kind: kind, Above: above}
			if kind == api.Host {
				x.Addr = addr.V4(uint32(i))
			}
			l = append(l, x)
		}
	}
	add(levels, 1, -1)
	add(zones, 2, 0)
	add(racks, 3, levels)
	add(hosts, 4, levels+zones)
	return l
}

func TestFull(t *testing.T) { // 16.1
	for i, c := range []struct {
		l    []api.Node
		e    api.Errno
		at   int
		last api.Node
	}{
		{many(4, 1, 1, 512), api.OK, 0, api.Node{}}, {many(5, 1, 1, 1), api.ErrFull, 4, api.Node{}}, {many(1, 1, 1, 513), api.ErrFull, 515, api.Node{}}, {many(1, 1021, 1, 1), api.OK, 0, api.Node{}},
		{many(1, 1022, 1, 1), api.ErrFull, 1024, api.Node{}}, {append(many(1, 1021, 1, 1), api.Node{Name: "x", Kind: 2, Above: 0}), api.ErrFull, 1024, api.Node{}},
		{append(many(1, 1021, 1, 1), api.Node{Name: "2-1", Kind: 2, Above: 0}), api.ErrTwice, 1024, api.Node{}}, {append(many(1, 1, 1, 512), api.Node{Name: "4-1", Kind: 4, Above: 2}), api.ErrTwice, 515, api.Node{}},
	} {
		x, at, e := New(c.l...)
		if e != c.e || at != c.at || (x == nil) == (e == api.OK) {
			t.Error(i, e, at)
		}
	}
}
