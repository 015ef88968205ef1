package pfx

import (
	"math"
	"net/netip"
	"slices"
	"testing"

	"distributary/addr"
	"distributary/api"
)

// many are addresses close to one another, of both versions.
func many() []api.Addr {
	l := []api.Addr{}
	x := uint64(5)
	for range 200 {
		x = x*6364136223846793005 + 1442695040888963407
		l = append(l, addr.V4(uint32(0x0a000000|x>>60<<20|x>>40&3)), addr.V6(0x20010db8<<32|x>>62, x>>61<<61|x>>30&1), addr.V4(uint32(x)), addr.V6(x, x*3))
	}
	return l
}

func lib(a api.Addr) netip.Addr {
	n, _ := netip.AddrFromSlice(addr.Bytes(a))
	return n
}

func TestMask(t *testing.T) { // 6.1
	for i, a := range many() {
		for _, bits := range []int{0, 1, 7, 8, 31, 32, 33, 63, 64, 65, 127, 128, i % 129} {
			held := min(bits, addr.Bits(a))
			want, _ := lib(a).Prefix(held)
			got := Mask(a, bits)
			if lib(got) != want.Addr() || !addr.Right(got) {
				t.Fatal(a, bits, got)
			}
			p := api.Prefix{Addr: got, Bits: bits}
			if Right(p) != (bits <= addr.Bits(a)) {
				t.Fatal("Right", p)
			}
			if got != a && Right(api.Prefix{Addr: a, Bits: held}) {
				t.Fatal("Right", a, held)
			}
		}
		if Mask(a, -1) != Mask(a, 0) || Mask(a, math.MinInt) != Mask(a, 0) || Mask(a, 200) != a || Mask(a, math.MaxInt) != a {
			t.Fatal("held", a)
		}
	}
}

func TestRight(t *testing.T) { // 6.1
	for _, p := range []api.Prefix{{Bits: -1}, {Bits: 33}, {Addr: addr.V6(0, 0), Bits: 129}, {Addr: addr.V6(0, 0), Bits: -1}, {Addr: api.Addr{Lo: 1 << 32}, Bits: 0},
		{Addr: api.Addr{Hi: 1}, Bits: 32}, {Addr: addr.V4(1), Bits: 31}, {Addr: addr.V6(0, 1), Bits: 127}, {Addr: addr.V6(1, 0), Bits: 63}} {
		if Right(p) || Has(p, p.Addr) {
			t.Error(p)
		}
		trie := &Trie{}
		if trie.Put(p, 1) != api.ErrArg || trie.Len() != 0 {
			t.Error("Put", p)
		}
	}
	for _, p := range []api.Prefix{{}, {Bits: 32}, {Addr: addr.V6(0, 0), Bits: 0}, {Addr: addr.V6(1, 1), Bits: 128}, {Addr: addr.V4(1 << 31), Bits: 1}} {
		if !Right(p) {
			t.Error(p)
		}
	}
}

func TestHas(t *testing.T) { // 6.1
	l := many()
	for i, a := range l {
		p := api.Prefix{Addr: Mask(a, i%33), Bits: i % 33}
		want, _ := lib(a).Prefix(i % 33)
		for _, b := range l {
			if Has(p, b) != want.Contains(lib(b)) {
				t.Fatal(p, b)
			}
		}
	}
	if Has(api.Prefix{}, addr.V6(0, 0)) || Has(api.Prefix{Addr: addr.V6(0, 0)}, addr.V4(0)) {
		t.Fatal("versions")
	}
}

func TestTexts(t *testing.T) { // 6.2
	for i, a := range many() {
		bits := i % (addr.Bits(a) + 1)
		p := api.Prefix{Addr: Mask(a, bits), Bits: bits}
		if Text(p) != netip.PrefixFrom(lib(p.Addr), bits).String() {
			t.Fatal(Text(p))
		}
		if q, e := Parse(Text(p)); q != p || e != api.OK {
			t.Fatal(p, q, e)
		}
	}
	for _, s := range []string{"", "/", "10.0.0.0", "10.0.0.0/", "/8", "10.0.0.1/8", "10.0.0.0/08", "10.0.0.0/+8", "10.0.0.0/33", "10.0.0.0/-1", "10.0.0.0/8/8", "10.0.0.0/ 8",
		"::/129", "::/256", "::/264", "::1/127", "0::/8", "10.0.0.0/18446744073709551624", "1::/0x10"} {
		if p, e := Parse(s); p != (api.Prefix{}) || e != api.ErrAddr {
			t.Error(s, p, e)
		}
	}
}

func TestSort(t *testing.T) { // 6.2
	l := []api.Prefix{}
	for i, a := range many() {
		l = append(l, api.Prefix{Addr: Mask(a, i%20), Bits: i % 20})
	}
	was := slices.Clone(l)
	out := Sort(l...)
	if !slices.Equal(was, l) || len(out) != len(l) {
		t.Fatal("changed")
	}
	for i := range out[1:] {
		a, b := out[i], out[i+1]
		if c := addr.Compare(a.Addr, b.Addr); c > 0 || c == 0 && a.Bits > b.Bits {
			t.Fatal(a, b)
		}
	}
	for _, p := range l {
		if !slices.Contains(out, p) {
			t.Fatal("lost", p)
		}
	}
	if len(Sort()) != 0 {
		t.Fatal("of none")
	}
}

func TestTrie(t *testing.T) { // 6.3
	trie := &Trie{}
	l := many()
	have := map[api.Prefix]int{}
	for i, a := range l {
		bits := i * 7 % (addr.Bits(a) + 1)
		p := api.Prefix{Addr: Mask(a, bits), Bits: bits}
		have[p] = i
		if trie.Put(p, i) != api.OK || trie.Len() != len(have) {
			t.Fatal("Put", p)
		}
		if i%50 != 49 {
			continue
		}
		for _, b := range l {
			value, long, ok := 0, 0, false
			for q, v := range have {
				if Has(q, b) && (!ok || q.Bits > long) {
					value, long, ok = v, q.Bits, true
				}
			}
			if v, n, o := trie.Find(b); v != value || n != long || o != ok {
				t.Fatal("Find", b, v, n, o, value, long, ok)
			}
		}
	}
	if _, _, ok := trie.Find(api.Addr{Lo: 1 << 32}); ok {
		t.Fatal("one that may not be")
	}
}

func TestTrieEdges(t *testing.T) { // 6.3
	var none *Trie
	if v, n, ok := none.Find(addr.V4(1)); none.Put(api.Prefix{}, 1) != api.ErrArg || none.Len() != 0 || v != 0 || n != 0 || ok {
		t.Fatal("no trie")
	}
	var trie Trie
	if v, n, ok := trie.Find(addr.V4(1)); trie.Len() != 0 || v != 0 || n != 0 || ok {
		t.Fatal("zero value")
	}
	trie.Put(api.Prefix{}, 4)
	trie.Put(api.Prefix{}, 5)
	if v, n, ok := trie.Find(addr.V4(1)); trie.Len() != 1 || v != 5 || n != 0 || !ok {
		t.Fatal(v, n, ok)
	}
	if _, _, ok := trie.Find(addr.V6(0, 1)); ok {
		t.Fatal("versions")
	}
}
