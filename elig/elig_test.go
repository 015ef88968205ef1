package elig

import (
	"math"
	"slices"
	"testing"

	"distributary/addr"
	"distributary/api"
	"distributary/tree"
)

// grown is a tree: two levels, four zones, eight racks, 24 hosts; some weights are fixed.
func grown(t *testing.T) *tree.Tree {
	t.Helper()
	l := []api.Node{{Name: "l0", Kind: 1, Above: -1}, {Name: "l1", Kind: 1, Above: -1}}
	for i := range 4 {
		l = append(l, api.Node{Name: "z" + string(rune('0'+i)), Kind: 2, Above: i / 3, Weight: i % 2 * 9})
	}
	for i := range 8 {
		l = append(l, api.Node{Name: "r" + string(rune('0'+i)), Kind: 3, Above: 2 + i/2, Weight: i % 3 * 5})
	}
	for i := range 24 {
		l = append(l, api.Node{Name: "h" + string(rune('a'+i)), Kind: 4, Above: 6 + i%7, Weight: i % 5 * 100, Addr: addr.V4(uint32(i))})
	}
	x, at, e := tree.New(l...)
	if e != api.OK {
		t.Fatal(at, e)
	}
	return x
}

// has is what Has tells, told anew.
func has(x *tree.Tree, hosts []int, i int) bool {
	return slices.ContainsFunc(x.Below(i), func(h int) bool { return slices.Contains(hosts, h) && x.Node(h).Weight > 0 })
}

// weight is what Weight tells, told anew.
func weight(x *tree.Tree, hosts []int, i int) uint64 {
	if !has(x, hosts, i) {
		return 0
	}
	if w := x.Node(i).Weight; w != 0 {
		return uint64(w)
	}
	n := uint64(0)
	for _, k := range x.Kids(i) {
		n += weight(x, hosts, k)
	}
	return n
}

func check(t *testing.T, s *Set, x *tree.Tree, hosts []int) {
	t.Helper()
	list := []int{}
	for i := range x.Len() {
		if s.Weight(i) != weight(x, hosts, i) || s.Has(i) != has(x, hosts, i) {
			t.Fatal(i, s.Weight(i), weight(x, hosts, i))
		}
		if x.Node(i).Kind == 4 && has(x, hosts, i) {
			list = append(list, i)
		}
	}
	if !slices.Equal(s.List(), list) {
		t.Fatal(s.List(), list)
	}
	have, all := s.Counts()
	for k, level := range x.Levels() {
		n := len(slices.DeleteFunc(x.Below(level), func(h int) bool { return !slices.Contains(list, h) }))
		if have[k] != n || all[k] != len(x.Below(level)) || len(have) != len(x.Levels()) || len(all) != len(have) {
			t.Fatal(have, all)
		}
	}
	for kind := -1; kind < 7; kind++ {
		want := []int{}
		for i := range x.Len() {
			if x.Node(i).Kind == kind && has(x, hosts, i) {
				want = append(want, i)
			}
		}
		if !slices.Equal(s.Domains(kind), want) {
			t.Fatal(kind, s.Domains(kind), want)
		}
	}
}

func TestSets(t *testing.T) { // 23.1, 23.2
	x := grown(t)
	r := uint64(1)
	for i := range 300 {
		hosts := []int{-1, 0, 3, 7, 999, math.MaxInt, math.MinInt}
		without := []int{-1, math.MaxInt, math.MinInt, 999}
		for n := range x.Len() {
			r = r*6364136223846793005 + 1442695040888963407
			if r>>60 < uint64(i%17) {
				hosts = append(hosts, n, n)
			}
			if r>>40%16 == 1 {
				without = append(without, n)
			}
		}
		s := New(x, hosts...)
		check(t, s, x, hosts)
		left := slices.DeleteFunc(slices.Clone(hosts), func(h int) bool {
			return slices.ContainsFunc(without, func(w int) bool { return slices.Contains(x.Below(w), h) })
		})
		check(t, s.Without(without...), x, left)
		check(t, s, x, hosts)
		check(t, s.Without(-1), x, hosts)
	}
	s := New(x, x.Hosts()...)
	for _, i := range []int{-1, x.Len(), math.MaxInt, math.MinInt} {
		if s.Weight(i) != 0 || s.Has(i) {
			t.Error(i)
		}
	}
	s.List()[0] = 99
	if s.List()[0] == 99 {
		t.Error("shared")
	}
}

func TestFixed(t *testing.T) { // 23.1: a zone of weight 9 whose hosts can't be picked weighs nothing
	x, _, _ := tree.New(api.Node{Name: "l", Kind: 1, Above: -1}, api.Node{Name: "z", Kind: 2, Above: 0, Weight: 9}, api.Node{Name: "r", Kind: 3, Above: 1}, api.Node{Name: "h", Kind: 4, Above: 2, Weight: 70})
	if s := New(x); s.Weight(1) != 0 || s.Weight(0) != 0 || s.Has(1) {
		t.Error("without hosts")
	}
	if s := New(x, 3); s.Weight(3) != 70 || s.Weight(2) != 70 || s.Weight(1) != 9 || s.Weight(0) != 9 {
		t.Error("fixed")
	}
}

func TestNone(t *testing.T) { // 23.1, 23.2
	var none *Set
	for i, s := range []*Set{none, {}, New(nil, 1, 2), New(&tree.Tree{}, 0)} {
		have, all := s.Counts()
		if s.Weight(0) != 0 || s.Has(0) || len(s.List()) != 0 || len(have) != 0 || len(all) != 0 || len(s.Domains(4)) != 0 || i < 3 && s.Without(1) != s || s.Without(1) == nil && i > 0 {
			t.Error(i)
		}
	}
	s := &Set{Tree: grown(t)}
	have, all := s.Counts()
	if s.Weight(7) != 0 || len(s.List()) != 0 || !slices.Equal(have, []int{0, 0}) || all[0]+all[1] != 24 || len(s.Without(2).List()) != 0 {
		t.Error("nobody made it")
	}
}
