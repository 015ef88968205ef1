package mix

import (
	"math/big"
	"testing"
)

const g = 0x9e3779b97f4a7c15

// unmix takes One back, step by step: so each number has one origin.
func unmix(x uint64) uint64 {
	x ^= x >> 33
	x *= inverse(0xc4ceb9fe1a85ec53)
	x ^= x >> 33
	x *= inverse(0xff51afd7ed558ccd)
	return x ^ x>>33
}

func inverse(a uint64) uint64 {
	x := a
	for range 6 {
		x *= 2 - a*x
	}
	return x
}

func TestOne(t *testing.T) { // 2.1, 2.4
	if One(0) != 0 || One(1) != 0xb456bcfc34c2cb2c || One(2) != 0x3abf2a20650683e7 {
		t.Fatalf("%x %x", One(1), One(2))
	}
	x := uint64(3)
	for range 1000 {
		x = x*6364136223846793005 + 1
		if unmix(One(x)) != x {
			t.Fatal(x)
		}
	}
}

func TestOf(t *testing.T) { // 2.1
	for _, key := range []uint64{0, 1, g, 1<<64 - 1, 77} {
		h := One(key ^ g)
		if Of(key) != h {
			t.Fatal("without numbers")
		}
		l := []uint64{5, 0, 1<<64 - 1, g, 9}
		for i, x := range l {
			h = One((h<<23 | h>>41) ^ One(x+g))
			if Of(key, l[:i+1]...) != h {
				t.Fatal(key, i)
			}
		}
	}
	if Of(1, 2, 3) == Of(1, 3, 2) || Of(1, 2) == Of(2, 2) {
		t.Fatal("order or key does not matter")
	}
}

func TestText(t *testing.T) { // 2.1
	for _, c := range []struct {
		s string
		l []uint64
	}{
		{"", nil},
		{"a", []uint64{0x61}},
		{"abcdefgh", []uint64{0x6867666564636261}},
		{"abcdefghij", []uint64{0x6867666564636261, 0x6a69}},
		{"\xff\x00", []uint64{0xff}},
	} {
		if Text(7, c.s) != One(Of(7, c.l...)^uint64(len(c.s))) {
			t.Error(c.s)
		}
	}
	if Text(1, "a") == Text(1, "a\x00") {
		t.Error("the length does not matter")
	}
}

func TestBelowDraw(t *testing.T) { // 2.2, 2.4
	for _, n := range []int{-5, 0, 1, 2, 3, 10, 65537, 1<<63 - 1} {
		for _, h := range []uint64{0, 1, 1 << 48, 1<<48 - 1, 1 << 63, 1<<63 - 1, 1<<64 - 1, One(9)} {
			want := 0
			if n > 0 {
				p := new(big.Int).Mul(new(big.Int).SetUint64(h), big.NewInt(int64(n)))
				want = int(p.Rsh(p, 64).Int64())
			}
			if got := Below(h, n); got != want || n > 0 && (got < 0 || got >= n) {
				t.Error(h, n, got, want)
			}
			if d := Draw(h); d != int(h/(1<<48))+1 || d < 1 || d > 65536 {
				t.Error(h, d)
			}
		}
	}
	if Draw(0) != 1 || Draw(1<<64-1) != 65536 || Below(1<<64-1, 10) != 9 {
		t.Error("edges")
	}
}

func TestGen(t *testing.T) { // 2.3
	for _, key := range []uint64{0, 5, 1<<64 - 1} {
		a, x := NewGen(key), key
		for range 50 {
			x += g
			if a.Next() != One(x) {
				t.Fatal(key)
			}
		}
	}
	if (*Gen)(nil).Next() != 0 {
		t.Fatal("nil")
	}
}
