package limit

import (
	"math"
	"slices"
	"testing"

	"distributary/addr"
	"distributary/api"
	"distributary/pfx"
	"distributary/rate"
)

func rule(t *testing.T, prefix string, each, most int64) Rule {
	t.Helper()
	p, e := pfx.Parse(prefix)
	if e != api.OK {
		t.Fatal(prefix)
	}
	return Rule{Prefix: p, Rule: rate.Rule{Each: each, Most: most}}
}

func source(t *testing.T, s string) api.Addr {
	t.Helper()
	a, e := addr.Parse(s)
	if e != api.OK {
		t.Fatal(s)
	}
	return a
}

func limits(t *testing.T, l ...Rule) *Limits {
	t.Helper()
	x, at, e := New(l...)
	if e != api.OK || at != 0 {
		t.Fatal(at, e)
	}
	return x
}

func some(t *testing.T) []Rule {
	return []Rule{rule(t, "10.0.0.0/8", 0, 1), rule(t, "10.1.0.0/16", 2, 5), rule(t, "::/0", 1, 3), rule(t, "10.1.2.3/32", 1, 1)}
}

func TestNew(t *testing.T) { // 45.1
	l := some(t)
	x := limits(t, l...)
	if !slices.Equal(x.Rules(), l) || x.Len() != 4 {
		t.Fatal(x.Rules())
	}
	l[0].Most = 99
	x.Rules()[1].Most = 99
	if x.Rules()[0].Most != 1 || x.Rules()[1].Most != 5 || x.Have(0) != 1 {
		t.Fatal("shared")
	}
	for s, want := range map[string]int{"10.5.5.5": 0, "10.1.5.5": 1, "10.1.2.3": 3, "10.1.2.4": 1, "11.0.0.0": -1, "::1": 2, "ffff::": 2} {
		if got := x.Of(source(t, s)); got != want {
			t.Error(s, got)
		}
	}
	if x.Of(api.Addr{Lo: 1 << 35}) != -1 {
		t.Error("one that may not be")
	}
	for i, want := range []int64{1, 5, 3, 1} {
		if x.Have(i) != want {
			t.Error("Have", i)
		}
	}
	for _, i := range []int{-1, 4, math.MaxInt, math.MinInt} {
		if x.Have(i) != 0 {
			t.Error("Have", i)
		}
	}
	bad := rule(t, "10.0.0.0/8", 0, 0)
	bad.Prefix.Bits = 4
	many := []Rule{}
	for i := range 257 {
		many = append(many, Rule{Prefix: api.Prefix{Addr: addr.V4(uint32(i)), Bits: 32}, Rule: rate.Rule{Most: 1}})
	}
	last := slices.Clone(many)
	last[256] = bad
	for i, c := range []struct {
		l    []Rule
		at   int
		want api.Errno
	}{
		{append(some(t), bad), 4, api.ErrAddr}, {append(some(t), rule(t, "10.0.0.0/8", 0, 0)), 4, api.ErrRange}, {append(some(t), rule(t, "::/0", -1, 5)), 4, api.ErrRange}, {append(some(t), rule(t, "::/0", 7, 7)), 4, api.ErrTwice},
		{[]Rule{bad, bad}, 0, api.ErrAddr}, {many, 256, api.ErrFull}, {last, 256, api.ErrFull}, {many[:256], 0, api.OK}, {nil, 0, api.OK}, {[]Rule{{}}, 0, api.ErrRange},
	} {
		x, at, e := New(c.l...)
		if at != c.at || e != c.want || (x == nil) == (e == api.OK) {
			t.Error(i, at, e)
		}
	}
	if MaxRules != 256 {
		t.Error("limit")
	}
}

func TestTake(t *testing.T) { // 45.2
	x := limits(t, some(t)...)
	a, b, none := source(t, "10.9.1.1"), source(t, "10.1.1.1"), source(t, "9.9.9.9")
	if !x.Take(a, 1) || x.Take(a, 1) || !x.Take(a, 0) || x.Take(a, -1) || x.Take(none, -1) || !x.Take(none, 1<<62) || !x.Take(b, 5) || x.Take(b, 1) || x.Have(1) != 0 || x.Have(0) != 0 {
		t.Error("Take")
	}
	if x.Wait(b, 0) != 0 || x.Wait(b, 3) != 2 || x.Wait(b, 6) != -1 || x.Wait(b, -1) != -1 || x.Wait(none, -1) != -1 || x.Wait(none, 99) != 0 || x.Wait(a, 1) != -1 {
		t.Error("Wait")
	}
	if x.Go(1) != api.OK || x.Go(1) != api.OK || x.Have(1) != 2 || x.Have(0) != 0 || x.Wait(none, 99) != 1 || x.Wait(b, 3) != 2 {
		t.Error("Go")
	}
	for _, now := range []int64{0, -1, math.MinInt64, 1<<40 + 1, math.MaxInt64} {
		if x.Go(now) != api.ErrRange || x.Wait(none, 1) != 1 {
			t.Error(now)
		}
	}
	if x.Go(1<<40) != api.OK || x.Have(1) != 5 || x.Wait(none, 1) != 1<<40 {
		t.Error("the greatest time")
	}
	y := limits(t)
	if y.Go(5) != api.OK || y.Wait(none, 1) != 5 || y.Go(4) != api.ErrRange || !y.Take(a, 5) {
		t.Error("without rules")
	}
}

func TestShare(t *testing.T) { // 45.2
	x := limits(t, some(t)...)
	a, c, none := source(t, "10.9.1.1"), source(t, "::9"), source(t, "9.9.9.9")
	if got := x.Share(a, c, a, none, c, c, c, none, a, c); !slices.Equal(got, []int{2, 6, 8, 9}) {
		t.Error(got)
	}
	if len(x.Share()) != 0 || x.Have(2) != 0 {
		t.Error("Share")
	}
}

func TestNone(t *testing.T) { // 45.2
	trie := &pfx.Trie{}
	trie.Put(api.Prefix{}, 0)
	for i, x := range []*Limits{nil, {}, {Trie: trie}} {
		if len(x.Rules()) != 0 || x.Of(addr.V4(1)) != -1 || x.Go(1) != api.ErrState || x.Take(addr.V4(1), 0) || x.Have(0) != 0 || x.Wait(addr.V4(1), 0) != -1 || !slices.Equal(x.Share(addr.V4(1), addr.V6(0, 1)), []int{0, 1}) {
			t.Error(i)
		}
	}
}
