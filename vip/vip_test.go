package vip

import (
	"slices"
	"testing"

	"distributary/addr"
	"distributary/api"
	"distributary/conf"
	"distributary/pfx"
	"distributary/valid"
)

const text = `level a
level b
level c
vip 10.0.0.1 tcp 80
vip 10.0.0.1 tcp 0 nat
vip 10.0.0.1 udp 53 copies 2
vip ::1 udp 0
view 10.0.0.0/8 1
view 10.1.0.0/16 2
view ::/0 1
view 10.1.2.0/24 0
`

func table(t *testing.T) *Table {
	t.Helper()
	c, _, e := conf.Parse(text)
	v, f := valid.New(c)
	if e != api.OK || f != api.OK {
		t.Fatal(e, f)
	}
	return New(v)
}

func TestMatch(t *testing.T) { // 30.1
	x := table(t)
	four, six := addr.V4(0x0a000001), addr.V6(0, 1)
	l := x.List()
	if len(l) != 4 || l[1].Nat != true || l[2].Copies != 2 {
		t.Fatal(l)
	}
	for i, c := range []struct {
		to    api.Addr
		proto int
		port  int
		want  int
	}{
		{four, 6, 80, 0}, {four, 6, 81, 1}, {four, 6, 0, 1}, {four, 6, 65535, 1}, {four, 17, 53, 2}, {four, 17, 54, -1}, {four, 17, 0, -1}, {six, 17, 5, 3}, {six, 17, 0, 3}, {six, 6, 80, -1}, {addr.V4(1), 17, 5, -1}, {four, 1, 80, -1},
	} {
		v, ok := x.Match(api.Tuple{Proto: c.proto, Src: addr.V4(9), Dst: c.to, SPort: 80, DPort: c.port})
		if ok != (c.want >= 0) || ok && v != l[c.want] || !ok && v != (api.Vip{}) {
			t.Error(i, v, ok)
		}
	}
	if !x.Ours(four) || !x.Ours(six) || x.Ours(addr.V4(1)) || x.Ours(api.Addr{}) || x.Ours(addr.V6(0, 0x0a000001)) {
		t.Error("Ours")
	}
	l[0].Port = 99
	if x.List()[0].Port != 80 || !slices.Equal(x.List(), table(t).List()) {
		t.Error("shared")
	}
}

func TestFrom(t *testing.T) { // 30.2
	x := table(t)
	for i, c := range []struct {
		a    api.Addr
		want int
	}{{addr.V4(0x0a050505), 1}, {addr.V4(0x0a010505), 2}, {addr.V4(0x0a010205), 0}, {addr.V4(0x0b000000), 0}, {addr.V6(9, 9), 1}, {api.Addr{Lo: 1 << 33}, 0}} {
		if got := x.From(c.a); got != c.want {
			t.Error(i, got)
		}
	}
	if x.Len() != 4 {
		t.Error("its trie is embedded")
	}
}

func TestNone(t *testing.T) { // 30.1, 30.2
	if New(nil) != nil {
		t.Error("of nil")
	}
	trie := &pfx.Trie{}
	trie.Put(api.Prefix{}, 3)
	for i, x := range []*Table{nil, {}, {Trie: trie}} {
		v, ok := x.Match(api.Tuple{})
		if v != (api.Vip{}) || ok || x.Ours(api.Addr{}) || x.From(addr.V4(1)) != 0 || len(x.List()) != 0 {
			t.Error(i)
		}
	}
}
