package straw

import (
	"slices"
	"testing"

	"distributary/logs"
	"distributary/mix"
	"distributary/wide"
)

func TestLong(t *testing.T) { // 25.1
	s := &Straws{}
	for key := range uint64(500) {
		x := Item{Id: key * 7, Weight: key % 5}
		if got := s.Long(key, x); got != (wide.Frac{Up: logs.Of(mix.Draw(mix.Of(key, x.Id))), Down: x.Weight}) {
			t.Fatal(key, got)
		}
	}
	var none *Straws
	if none.Long(1, Item{1, 1}) != (wide.Frac{}) || none.Pick(1, Item{1, 1}) != -1 {
		t.Fatal("nil")
	}
	if got := none.Count(1, 5, Item{1, 1}); len(got) > 1 || slices.Max(append(got, 0)) != 0 {
		t.Fatal("nil", got)
	}
}

// slow is what is picked: the least of all, in order of straws, ids, places.
func slow(s *Straws, key uint64, l []Item) int {
	places := []int{}
	for i, x := range l {
		if x.Weight != 0 {
			places = append(places, i)
		}
	}
	slices.SortStableFunc(places, func(a, b int) int {
		if c := s.Long(key, l[a]).Cmp(s.Long(key, l[b])); c != 0 {
			return c
		}
		if l[a].Id != l[b].Id {
			if l[a].Id < l[b].Id {
				return -1
			}
			return 1
		}
		return a - b
	})
	if len(places) == 0 {
		return -1
	}
	return places[0]
}

func TestPick(t *testing.T) { // 25.1
	s := &Straws{}
	for key := range uint64(3000) {
		l := []Item{}
		for i := range key % 9 {
			h := mix.Of(key, i)
			l = append(l, Item{Id: h % 6, Weight: h >> 20 % 4})
		}
		was := slices.Clone(l)
		if got := s.Pick(key, l...); got != slow(s, key, l) || !slices.Equal(was, l) {
			t.Fatal(key, got, l)
		}
		if s.Pick(key, Item{1, 0}, Item{2, 5}) != 1 {
			t.Fatal("weight 0")
		}
	}
	if s.Pick(1) != -1 || s.Pick(1, Item{4, 0}) != -1 || s.Pick(3, Item{4, 1}, Item{4, 1}) != 0 {
		t.Fatal("edges")
	}
	// Straws that are alike, because both draws are the greatest one: the lower id.
	for key := uint64(0); ; key++ {
		ids := []uint64{}
		for id := range uint64(60000) {
			if mix.Draw(mix.Of(key, id)) == 65536 {
				ids = append(ids, id)
			}
		}
		if len(ids) >= 2 {
			if s.Pick(key, Item{ids[1], 1}, Item{ids[0], 9}) != 1 || s.Pick(key, Item{ids[0], 1}, Item{ids[1], 9}) != 0 {
				t.Fatal("alike")
			}
			break
		}
	}
}

func TestCount(t *testing.T) { // 25.1
	s := &Straws{}
	l := []Item{{7, 1}, {8, 0}, {9, 2}, {10, 3}}
	want := make([]int, 4)
	from := ^uint64(0) - 500
	for i := range 6000 {
		want[s.Pick(from+uint64(i), l...)]++
	}
	got := s.Count(from, 6000, l...)
	if !slices.Equal(got, want) || got[1] != 0 {
		t.Fatal(got, want)
	}
	for i, w := range []int{1000, 0, 2000, 3000} {
		if d := got[i] - w; d < -150 || d > 150 {
			t.Error("not as often as it weighs", got)
		}
	}
	if len(s.Count(1, 5)) != 0 || !slices.Equal(s.Count(1, -5, l...), make([]int, 4)) || !slices.Equal(s.Count(1, 0, l...), make([]int, 4)) {
		t.Error("edges")
	}
}

func TestMoves(t *testing.T) { // 25.2
	s := &Straws{}
	for key := range uint64(5000) {
		l := []Item{{1, 5}, {2, 3}, {3, 8}, {4, 1}}
		more := slices.Clone(l)
		at := int(key % 4)
		more[at].Weight += 1 + key%7
		a, b := s.Pick(key, l...), s.Pick(key, more...)
		if a != b && b != at {
			t.Fatal(key, a, b)
		}
	}
}
