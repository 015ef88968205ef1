package load

import (
	"math"
	"math/big"
	"slices"
	"testing"
)

func TestHealth(t *testing.T) { // 24.1
	for _, have := range []int{-1, 0, 1, 2, 7, 9, 10, 100, 1 << 20, 1 << 40} {
		for _, all := range []int{-1, 0, 1, 2, 10, 14, 512, 1 << 40} {
			for _, factor := range []int{-5, 0, 1, 99, 100, 140, 1000, 1 << 40} {
				want := 0
				if have > 0 && all > 0 && factor > 0 {
					n := new(big.Int).Mul(big.NewInt(int64(factor)*100), big.NewInt(int64(have)))
					if n.Div(n, big.NewInt(int64(all))); n.Cmp(big.NewInt(10000)) > 0 {
						n.SetInt64(10000)
					}
					want = int(n.Int64())
				}
				if got := Health(have, all, factor); got != want {
					t.Error(have, all, factor, got, want)
				}
			}
		}
	}
	if Health(5, 10, 140) != 7000 || Health(math.MaxInt, math.MaxInt, math.MaxInt) < 0 || All != 10000 {
		t.Error("edges")
	}
}

func TestRight(t *testing.T) { // 24.1
	for i, c := range []struct {
		have, all []int
		factor    int
		want      bool
	}{
		{nil, nil, 100, true}, {[]int{0, 1, 2, 3}, []int{0, 1, 3, 3}, 1000, true}, {[]int{1 << 20}, []int{1 << 20}, 140, true}, {[]int{1}, []int{1<<20 + 1}, 140, false}, {[]int{2}, []int{1}, 140, false}, {[]int{-1}, []int{1}, 140, false},
		{[]int{0}, []int{-1}, 140, false}, {[]int{0}, nil, 140, false}, {make([]int, 5), make([]int, 5), 140, false}, {nil, nil, 99, false}, {nil, nil, 1001, false},
	} {
		if Right(c.have, c.all, c.factor) != c.want || !c.want && Of(c.have, c.all, c.factor) != nil {
			t.Error(i)
		}
	}
}

func TestOf(t *testing.T) { // 24.1
	for i, c := range []struct {
		have, all []int
		factor    int
		want      []int
	}{
		{[]int{5, 10}, []int{10, 10}, 140, []int{7000, 3000}}, {[]int{10, 10}, []int{10, 10}, 140, []int{10000, 0}}, {[]int{0, 0}, []int{10, 10}, 140, []int{0, 0}}, {[]int{0, 5}, []int{0, 5}, 100, []int{0, 10000}},
		{[]int{1, 1, 1}, []int{4, 4, 4}, 100, []int{3334, 3333, 3333}}, {[]int{0, 1, 1, 1}, []int{4, 7, 7, 7}, 100, []int{0, 3334, 3333, 3333}}, {[]int{1, 3}, []int{10, 10}, 100, []int{2500, 7500}}, {nil, nil, 100, nil},
		{[]int{1}, []int{512}, 100, []int{10000}}, {[]int{1, 512}, []int{512, 512}, 100, []int{19, 9981}}, {[]int{1}, []int{1 << 20}, 100, []int{10000}}, {[]int{0, 1}, []int{1, 1 << 20}, 100, []int{0, 10000}}, {[]int{1, 1}, []int{20000, 10000}, 100, []int{0, 10000}},
	} {
		if got := Of(c.have, c.all, c.factor); !slices.Equal(got, c.want) {
			t.Error(i, got)
		}
	}
}

func TestWhatFollows(t *testing.T) { // 24.2, 24.3
	r := uint64(1)
	for i := range 3000 {
		have, all := []int{}, []int{}
		for range i % 5 {
			r = r*6364136223846793005 + 1442695040888963407
			n := int(r >> 40 % 12)
			all = append(all, n)
			have = append(have, int(r>>20)%(n+1))
		}
		factor := 100 + int(r>>50)%901
		loads := Of(have, all, factor)
		sum, healths := 0, 0
		for k, l := range loads {
			if have[k] == 0 && l != 0 || l < 0 {
				t.Fatal(have, all, loads)
			}
			if l > 0 && healths >= 10000 {
				t.Fatal("a level behind those that are well", have, all, factor, loads)
			}
			sum += l
			healths += Health(have[k], all[k], factor)
		}
		want := 0
		if slices.ContainsFunc(have, func(n int) bool { return n > 0 }) {
			want = 10000
		}
		if sum != want || len(have) > 0 && Health(have[0], all[0], factor) == 10000 && loads[0] != 10000 {
			t.Fatal(have, all, factor, loads)
		}
		if i < 200 {
			drawn := make([]int, len(loads))
			for draw := range 10000 {
				if level := Level(loads, draw); level >= 0 {
					drawn[level]++
				} else if want != 0 {
					t.Fatal("none is drawn")
				}
			}
			if !slices.Equal(drawn, loads) && want != 0 {
				t.Fatal(drawn, loads)
			}
		}
	}
}

func TestLevel(t *testing.T) { // 24.2
	for i, c := range []struct {
		loads      []int
		draw, want int
	}{
		{[]int{7000, 3000}, 0, 0}, {[]int{7000, 3000}, 6999, 0}, {[]int{7000, 3000}, 7000, 1}, {[]int{7000, 3000}, 9999, 1}, {[]int{7000, 3000}, 10000, -1}, {[]int{7000, 3000}, -1, -1}, {nil, 0, -1}, {[]int{0, 0}, 0, -1},
		{[]int{-5, 10}, 9, 1}, {[]int{-5, 10}, 10, -1}, {[]int{0, 0, 1}, 0, 2}, {[]int{5}, math.MaxInt, -1}, {[]int{5}, math.MinInt, -1}, {[]int{1 << 20, 1 << 20}, 1<<20 + 5, 1},
	} {
		if got := Level(c.loads, c.draw); got != c.want {
			t.Error(i, got)
		}
	}
}

func TestTurnBack(t *testing.T) { // 24.2
	l := []int{10, 11, 12, 13}
	for from := -2; from < 7; from++ {
		got := Turn(l, from)
		if from < 0 || from > 3 {
			if !slices.Equal(got, l) {
				t.Error(from, got)
			}
			continue
		}
		for i := range got {
			if Back(i, from, 4) != got[i]-10 {
				t.Error("Back", i, from)
			}
		}
	}
	got := Turn(l, 0)
	if !slices.Equal(Turn(l, 1), []int{11, 12, 13, 10}) || !slices.Equal(got, l) || len(Turn(nil, 0)) != 0 {
		t.Error("Turn")
	}
	got[0] = 9
	if Turn(l, 99)[0] = 9; l[0] != 10 {
		t.Error("shared")
	}
	for _, c := range [][4]int{{-1, 0, 4, -1}, {4, 1, 4, 4}, {1, 4, 4, 1}, {1, -1, 4, 1}, {0, 0, 0, 0}, {math.MaxInt - 1, math.MaxInt - 1, math.MaxInt, math.MaxInt - 2}, {math.MinInt, 1, 4, math.MinInt}, {3, 3, 4, 2}} {
		if got := Back(c[0], c[1], c[2]); got != c[3] {
			t.Error(c, got)
		}
	}
}
