package ring

import (
	"math"
	"slices"
	"testing"

	"distributary/api"
	"distributary/mix"
)

func TestPrime(t *testing.T) { // 39.1
	sieve := make([]bool, 70000)
	for i := 2; i < len(sieve); i++ {
		sieve[i] = true
	}
	for i := 2; i*i < len(sieve); i++ {
		for j := i * i; j < len(sieve); j += i {
			sieve[j] = false
		}
	}
	for n, want := range sieve {
		if Prime(n) != want {
			t.Fatal(n)
		}
	}
	if Prime(-7) || Prime(math.MinInt) || !Prime(1<<31-1) || Prime(math.MaxInt) || Prime(1000003*1000003) || MaxSize != 65537 {
		t.Fatal("edges")
	}
}

func items(n int) []Item {
	l := []Item{}
	for i := range n {
		l = append(l, Item{Id: uint64(i) * 3, Weight: i % 5})
	}
	return l
}

func TestRight(t *testing.T) { // 39.1
	for i, c := range []struct {
		size int
		l    []Item
		want bool
	}{
		{7, items(7), true}, {7, items(8), false}, {9, nil, false}, {2, nil, true}, {1, nil, false}, {0, nil, false}, {-7, nil, false}, {65537, items(512), true}, {65539, nil, false}, {65537, items(513), false}, {521, items(512), true}, {math.MaxInt, nil, false},
		{7, []Item{{1, 65535}}, true}, {7, []Item{{1, 65536}}, false}, {7, []Item{{1, -1}}, false}, {7, []Item{{1, 1}, {2, 1}, {1, 2}}, false}, {7, []Item{{1 << 63, 0}, {0, 0}}, true},
	} {
		r, e := New(1, c.size, c.l...)
		if Right(c.size, c.l) != c.want || (e == api.OK) != c.want || (r != nil) != c.want || !c.want && e != api.ErrArg {
			t.Error(i, e)
		}
	}
}

// slow is the ring as the chapter says.
func slow(seed uint64, size int, l []Item) []int {
	places := slices.Repeat([]int{-1}, size)
	most := 0
	lists := [][]int{}
	for _, x := range l {
		most = max(most, x.Weight)
		at, skip, list := mix.Below(mix.Of(seed, x.Id, 1), size), 1+mix.Below(mix.Of(seed, x.Id, 2), size-1), []int{}
		for range size {
			list = append(list, at)
			at = (at + skip) % size
		}
		lists = append(lists, list)
	}
	if most == 0 {
		return places
	}
	due, left := make([]int, len(l)), size
	for i := 0; left > 0; i = (i + 1) % len(l) {
		if due[i] += l[i].Weight; due[i] >= most {
			due[i] -= most
			for places[lists[i][0]] >= 0 {
				lists[i] = lists[i][1:]
			}
			places[lists[i][0]] = i
			left--
		}
	}
	return places
}

func TestNew(t *testing.T) { // 39.1, 39.2, 39.3
	for seed := range uint64(40) {
		for _, size := range []int{2, 3, 7, 31, 251} {
			l := items(min(size, int(seed)%20))
			for i := range l {
				l[i].Weight = int(mix.Of(seed, uint64(i)) % 7)
				if seed%10 == 3 {
					l[i].Weight = 0
				}
			}
			was := slices.Clone(l)
			r, e := New(seed, size, l...)
			want := slow(seed, size, l)
			if e != api.OK || r.Size() != size || !slices.Equal(l, was) {
				t.Fatal(e)
			}
			shares := make([]int, len(l))
			for i, at := range want {
				if r.Pick(uint64(i)) != at || r.Pick(uint64(i)+uint64(size)*1000) != at {
					t.Fatal(seed, size, i)
				}
				if at >= 0 {
					shares[at]++
				}
			}
			if !slices.Equal(r.Shares(len(l)), shares) {
				t.Fatal("Shares")
			}
			if !slices.ContainsFunc(l, func(x Item) bool { return x.Weight > 0 }) {
				continue
			}
			for i, x := range l {
				for j, y := range l {
					if x.Weight > y.Weight && shares[i] < shares[j]-1 {
						t.Fatal("shares", l, shares)
					}
				}
				if x.Weight == 0 && shares[i] != 0 || slices.Contains(want, -1) {
					t.Fatal("weight 0")
				}
			}
		}
	}
	r, _ := New(1, 65537, items(512)...)
	if r.Pick(1<<64-1) != r.Pick((1<<64-1)%65537) {
		t.Fatal("the greatest key")
	}
}

func TestShares(t *testing.T) { // 39.2
	r, _ := New(1, 7, Item{1, 1}, Item{2, 0}, Item{3, 1})
	all := r.Shares(3)
	if all[0]+all[2] != 7 || all[1] != 0 || !slices.Equal(r.Shares(1), all[:1]) || !slices.Equal(r.Shares(5), append(slices.Clone(all), 0, 0)) || len(r.Shares(0)) != 0 || len(r.Shares(-1)) != 0 || len(r.Shares(math.MinInt)) != 0 || len(r.Shares(512)) != 512 || len(r.Shares(math.MaxInt)) > 512 {
		t.Error(all)
	}
}

func TestMoved(t *testing.T) { // 39.2
	x := []Item{{1, 1}, {2, 1}, {3, 1}}
	y := []Item{{3, 1}, {1, 1}, {2, 5}}
	z := []Item{{1, 0}}
	a, _ := New(1, 31, x...)
	b, _ := New(1, 31, y...)
	c, _ := New(1, 31, z...)
	d, _ := New(1, 29, x...)
	want := 0
	for i := range 31 {
		if x[a.Pick(uint64(i))].Id != y[b.Pick(uint64(i))].Id {
			want++
		}
	}
	if got := Moved(a, x, b, y); got != want || got == 0 || Moved(b, y, a, x) != want || Moved(a, x, a, x) != 0 {
		t.Error(got, want)
	}
	if Moved(a, x, c, z) != 31 || Moved(c, z, a, x) != 31 || Moved(c, z, c, nil) != 0 || Moved(a, x, d, x) != -1 || Moved(a, nil, c, z) != 0 || Moved(a, x[:1], a, x[:2]) != a.Shares(2)[1] {
		t.Error("none")
	}
	zero := []Item{{0, 1}}
	e, _ := New(1, 31, zero...)
	if Moved(e, zero, c, z) != 31 {
		t.Error("the number 0 is not none")
	}
	if Moved(nil, x, nil, y) != 0 || Moved(nil, x, a, x) != -1 || Moved(a, x, nil, x) != -1 {
		t.Error("nil")
	}
}

func TestNone(t *testing.T) { // 39.2
	for _, r := range []*Ring{nil, {}} {
		if r.Size() != 0 || r.Pick(7) != -1 || slices.Max(append(r.Shares(3), 0)) != 0 || len(r.Shares(0)) != 0 {
			t.Error("no ring")
		}
	}
}
