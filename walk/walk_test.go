package walk

import (
	"math"
	"slices"
	"strconv"
	"testing"

	"distributary/addr"
	"distributary/api"
	"distributary/elig"
	"distributary/load"
	"distributary/mix"
	"distributary/straw"
	"distributary/tree"
)

// nodes are two levels, six zones, twelve racks, 36 hosts; weights of zones and racks are fixed, if so is told.
func nodes(fixed int) []api.Node {
	l := []api.Node{{Name: "l0", Kind: 1, Above: -1}, {Name: "l1", Kind: 1, Above: -1}}
	for i := range 6 {
		l = append(l, api.Node{Name: "z" + strconv.Itoa(i), Kind: 2, Above: i % 2, Weight: fixed * (i + 1)})
	}
	for i := range 12 {
		l = append(l, api.Node{Name: "r" + strconv.Itoa(i), Kind: 3, Above: 2 + i%6, Weight: fixed * (i + 3)})
	}
	for i := range 36 {
		l = append(l, api.Node{Name: "h" + strconv.Itoa(i), Kind: 4, Above: 8 + i%12, Weight: 1 + i%5, Addr: addr.V4(uint32(i))})
	}
	return l
}

func grow(t *testing.T, l []api.Node) *tree.Tree {
	t.Helper()
	x, at, e := tree.New(l...)
	if e != api.OK {
		t.Fatal(at, e)
	}
	return x
}

// some are the hosts of a tree of which a number says that they may be picked.
func some(x *tree.Tree, by uint64, part uint64) *elig.Set {
	hosts := []int{}
	for _, h := range x.Hosts() {
		if mix.Of(by, uint64(h))%10 < part {
			hosts = append(hosts, h)
		}
	}
	return elig.New(x, hosts...)
}

func walker() *Walker { return &Walker{Factor: 140, Seed: 77} }

func TestStepDown(t *testing.T) { // 26.1
	w, x := walker(), grow(t, nodes(0))
	for key := range uint64(400) {
		s := some(x, key, key%11)
		for at := -1; at <= x.Len(); at++ {
			items := []straw.Item{}
			for _, k := range x.Kids(at) {
				items = append(items, straw.Item{Id: uint64(k), Weight: s.Weight(k)})
			}
			want := -1
			if i := w.Pick(mix.Of(77, key, uint64(at)), items...); i >= 0 {
				want = x.Kids(at)[i]
			}
			if got := w.Step(s, at, key); got != want {
				t.Fatal("Step", at, key, got, want)
			}
			way := w.Down(s, at, key)
			if len(way) > 0 != s.Has(at) {
				t.Fatal("Down", at, key, way)
			}
			for i, n := range way {
				last := i == len(way)-1
				if i == 0 && n != at || !last && way[i+1] != w.Step(s, n, key) || last && (x.Node(n).Kind != api.Host || !s.Has(n)) {
					t.Fatal("way", way)
				}
			}
		}
	}
}

func TestLevels(t *testing.T) { // 26.1, 26.2, 26.3
	w, x := walker(), grow(t, nodes(0))
	for key := range uint64(600) {
		s := some(x, key, key%11)
		have, all := s.Counts()
		for _, from := range []int{0, 1, 2, -1, math.MaxInt, math.MinInt} {
			want := load.Of(have, all, 140)
			if from == 1 {
				want = load.Of([]int{have[1], have[0]}, []int{all[1], all[0]}, 140)
			}
			loads := w.Loads(s, from)
			if !slices.Equal(loads, want) {
				t.Fatal("Loads", from, loads, want)
			}
			level := load.Level(want, mix.Below(mix.Of(77, key), 10000))
			if from == 1 && level >= 0 {
				level = 1 - level
			}
			if w.Level(s, from, key) != level {
				t.Fatal("Level", from, key)
			}
			host := w.Host(s, from, key)
			if level == -1 {
				if host != -1 || len(s.List()) > 0 {
					t.Fatal("none may be picked", host)
				}
				continue
			}
			way := w.Down(s, x.Levels()[level], key)
			if host != way[len(way)-1] || !s.Has(host) {
				t.Fatal("Host", host, way)
			}
		}
	}
	for _, factor := range []int{99, 1001, 0, -1} {
		w.Factor = factor
		if s := elig.New(x, x.Hosts()...); len(w.Loads(s, 0)) != 0 || w.Level(s, 0, 1) != -1 || w.Host(s, 0, 1) != -1 || len(w.Copies(s, 0, 1, 3, 2)) != 0 {
			t.Error("factor", factor)
		}
	}
}

func TestCopies(t *testing.T) { // 26.2, 26.4
	w, x := walker(), grow(t, nodes(0))
	for key := range uint64(300) {
		s := some(x, key, key%11)
		for kind := 0; kind <= 5; kind++ {
			for _, many := range []int{-1, 0, 1, 2, 3, 7, 8, 9, math.MaxInt, math.MinInt} {
				from := int(key % 3)
				got := w.Copies(s, from, key, many, kind)
				want := min(max(many, 0), 8)
				if kind >= 1 && kind <= 4 {
					want = min(want, len(s.Domains(kind)))
				} else if len(s.List()) == 0 {
					want = 0
				}
				if len(got) != want {
					t.Fatal(key, kind, many, got, want)
				}
				left := s
				for i, h := range got {
					if h != w.Host(left, from, key) || !left.Has(h) {
						t.Fatal("not that of the others", got, i)
					}
					if up := x.Up(h, kind); up >= 0 {
						left = left.Without(up)
					}
				}
			}
		}
	}
}

func TestMoves(t *testing.T) { // 26.5
	w := walker()
	for _, fixed := range []int{0, 1} {
		l := nodes(fixed)
		a := grow(t, l)
		for _, host := range []int{20, 33, 41} {
			for _, now := range []int{1, 9, 400} {
				was := l[host].Weight
				l[host].Weight = now
				b := grow(t, l)
				l[host].Weight = was
				s, u := elig.New(a, a.Hosts()...), elig.New(b, b.Hosts()...)
				for key := range uint64(1500) {
					for level := range 2 {
						old, new := w.Down(s, level, key), w.Down(u, level, key)
						n := Split(old, new)
						if n == len(old) {
							continue
						}
						if now == was {
							t.Fatal("moved")
						}
						to := new
						if now < was {
							to = old
						}
						if a.Up(host, a.Node(to[n]).Kind) != to[n] || a.Up(host, a.Node(to[n-1]).Kind) != to[n-1] {
							t.Fatal("does not go on towards it", old, new, host)
						}
						if fixed == 1 && to[len(to)-1] != host {
							t.Fatal("not to that host", old, new, host)
						}
					}
				}
			}
		}
	}
}

func TestSplit(t *testing.T) { // 26.2
	for _, c := range []struct {
		a, b []int
		want int
	}{{[]int{0, 1, 2}, []int{0, 1, 5}, 2}, {nil, []int{1}, 0}, {[]int{1}, nil, 0}, {[]int{1, 2}, []int{1, 2}, 2}, {[]int{1, 2}, []int{1, 2, 3}, 2}, {[]int{3}, []int{1}, 0}, {nil, nil, 0}} {
		if got := Split(c.a, c.b); got != c.want {
			t.Error(c, got)
		}
	}
}

func TestNone(t *testing.T) { // 26.2
	s := elig.New(grow(t, nodes(0)), 20, 21)
	var none *Walker
	for i, w := range []*Walker{none, walker()} {
		for _, set := range []*elig.Set{s, nil, {}} {
			if i == 1 && set == s {
				continue
			}
			if len(w.Down(set, 20, 1)) != 0 {
				t.Error("the host itself", i)
			}
			if w.Step(set, 0, 1) != -1 || len(w.Down(set, 0, 1)) != 0 || len(w.Loads(set, 0)) != 0 || w.Level(set, 0, 1) != -1 || w.Host(set, 0, 1) != -1 || len(w.Copies(set, 0, 1, 5, 2)) != 0 {
				t.Error(i)
			}
		}
	}
}
