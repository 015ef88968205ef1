package diff

import (
	"math"
	"slices"
	"strconv"
	"testing"

	"distributary/addr"
	"distributary/api"
	"distributary/elig"
	"distributary/tree"
	"distributary/walk"
)

func small() []api.Node {
	return []api.Node{
		{Name: "l", Kind: 1, Above: -1}, {Name: "z", Kind: 2, Above: 0, Weight: 3}, {Name: "y", Kind: 2, Above: 0}, {Name: "r", Kind: 3, Above: 1, Weight: 4}, {Name: "q", Kind: 3, Above: 2, Weight: 1},
		{Name: "a", Kind: 4, Above: 3, Weight: 5, Addr: addr.V4(1)}, {Name: "b", Kind: 4, Above: 4, Weight: 6, Addr: addr.V4(2)},
	}
}

func TestOf(t *testing.T) { // 43.1
	for i, c := range []struct {
		change func(l []api.Node) []api.Node
		want   []Change
	}{
		{func(l []api.Node) []api.Node { return l }, nil},
		{func(l []api.Node) []api.Node { l[5].Weight = 9; return l }, []Change{{"a", Weight}}},
		{func(l []api.Node) []api.Node { l[5].Weight, l[5].Above, l[5].Addr.Lo = 9, 4, 7; return l }, []Change{{"a", Place}, {"a", Addr}, {"a", Weight}}},
		{func(l []api.Node) []api.Node { l[2].Kind = 3; return l }, []Change{{"y", Place}}},
		{func(l []api.Node) []api.Node { l[0].Above = 5; return l }, []Change{{"l", Place}}},
		{func(l []api.Node) []api.Node { l[0].Above = 99; return l }, nil},
		{func(l []api.Node) []api.Node { l[0].Above = 7; return l }, nil},
		{func(l []api.Node) []api.Node { l[0].Above = 6; return l }, []Change{{"l", Place}}},
		{func(l []api.Node) []api.Node { l[3].Name = "s"; return l }, []Change{{"r", Gone}, {"s", New}, {"a", Place}}},
		{func(l []api.Node) []api.Node { return nil }, []Change{{"l", Gone}, {"z", Gone}, {"y", Gone}, {"r", Gone}, {"q", Gone}, {"a", Gone}, {"b", Gone}}},
		{func(l []api.Node) []api.Node {
			return append([]api.Node{{Name: "m", Kind: 1, Above: -1}}, shifted(l)...)
		}, []Change{{"m", New}}},
		{func(l []api.Node) []api.Node { return append(l, api.Node{Name: "a", Kind: 4, Above: 3, Weight: 5}) }, []Change{{"a", Addr}}},
	} {
		if got := Of(small(), c.change(small())); !slices.Equal(got, c.want) {
			t.Error(i, got)
		}
	}
	twice := append(small(), api.Node{Name: "a", Weight: 77})
	if got := Of(twice, small()); len(got) != 0 {
		t.Error("the first that has it", got)
	}
	if got := Of(append(small(), api.Node{Name: "x"}, api.Node{Name: "x"}), small()); !slices.Equal(got, []Change{{"x", Gone}, {"x", Gone}}) {
		t.Error("each node", got)
	}
	if len(Of(nil, nil)) != 0 || Gone != 1 || New != 2 || Weight != 3 || Place != 4 || Addr != 5 {
		t.Error("names")
	}
}

// shifted are nodes as they stand behind one more.
func shifted(l []api.Node) []api.Node {
	for i := range l {
		if l[i].Above >= 0 {
			l[i].Above++
		}
	}
	return l
}

func grow(t *testing.T, fixed int, weight int) *elig.Set {
	t.Helper()
	l := []api.Node{{Name: "l", Kind: 1, Above: -1}}
	for i := range 3 {
		l = append(l, api.Node{Name: "z" + strconv.Itoa(i), Kind: 2, Above: 0, Weight: fixed})
	}
	for i := range 6 {
		l = append(l, api.Node{Name: "r" + strconv.Itoa(i), Kind: 3, Above: 1 + i%3, Weight: fixed})
	}
	for i := range 12 {
		l = append(l, api.Node{Name: "h" + strconv.Itoa(i), Kind: 4, Above: 4 + i%6, Weight: 10, Addr: addr.V4(uint32(i))})
	}
	l[15].Weight = weight
	x, _, e := tree.New(l...)
	if e != api.OK {
		t.Fatal(e)
	}
	return elig.New(x, x.Hosts()...)
}

func TestKeys(t *testing.T) { // 43.2, 43.3
	w := &walk.Walker{Factor: 140, Seed: 3}
	for _, fixed := range []int{0, 2} {
		a := grow(t, fixed, 10)
		for _, weight := range []int{1, 10, 100} {
			b := grow(t, fixed, weight)
			for _, host := range []int{15, 12, -1, 3} {
				want := Moved{Keys: 700}
				for key := uint64(0); key < 700; key++ {
					x, y := w.Host(a, 0, key-300), w.Host(b, 0, key-300)
					if x != y {
						want.All++
					}
					if x != y && y == host {
						want.To++
					}
					if x != y && x == host {
						want.From++
					}
				}
				minus := -300
				got := Keys(w, a, b, 0, host, uint64(minus), 700)
				if got != want {
					t.Fatal(got, want)
				}
				if (got.All > 0) != (weight != 10) || fixed != 0 && host == 15 && got.All != got.To+got.From {
					t.Fatal(fixed, weight, host, got)
				}
			}
		}
	}
	a := grow(t, 0, 10)
	none := elig.New(a.Tree)
	if got := Keys(w, a, none, 0, api.None, 5, 100); got != (Moved{100, 100, 100, 0}) {
		t.Error("to nobody", got)
	}
	if got := Keys(w, none, a, 0, api.None, 5, 100); got != (Moved{100, 100, 0, 100}) {
		t.Error("from nobody", got)
	}
	for _, keys := range []int{0, -1, math.MinInt} {
		if got := Keys(w, a, none, 0, 15, 5, keys); got != (Moved{}) {
			t.Error(keys, got)
		}
	}
	if got := Keys(nil, a, none, 0, 15, 5, 65536); got != (Moved{Keys: 65536}) {
		t.Error("nil", got)
	}
	if got := Keys(nil, nil, nil, 0, 15, 5, math.MaxInt); got.Keys > 65536 {
		t.Error("too many", got)
	}
}

func TestPart(t *testing.T) { // 43.2
	w := &walk.Walker{Factor: 140, Seed: 3}
	a, b := grow(t, 0, 10), grow(t, 0, 200)
	for key := range uint64(300) {
		for at := -1; at < 23; at++ {
			x, y, n := Part(w, a, b, at, key)
			if !slices.Equal(x, w.Down(a, at, key)) || !slices.Equal(y, w.Down(b, at, key)) || n != walk.Split(x, y) {
				t.Fatal(at, key)
			}
		}
	}
	if x, y, n := Part(nil, nil, nil, 0, 1); len(x) != 0 || len(y) != 0 || n != 0 {
		t.Error("nil")
	}
}

func TestFixed(t *testing.T) { // 43.2
	x, _, _ := tree.New(small()...)
	s := elig.New(x)
	for i, want := range []bool{true, true, true, true, false, true, false} {
		if Fixed(s, i) != want {
			t.Error(i)
		}
	}
	for _, at := range []int{-1, 7, math.MaxInt, math.MinInt} {
		if Fixed(s, at) || Fixed(nil, at) || Fixed(&elig.Set{}, at) {
			t.Error(at)
		}
	}
	if Fixed(nil, 0) || Fixed(&elig.Set{}, 0) {
		t.Error("none")
	}
}
