package wide

import (
	"math/big"
	"testing"
)

// samples are numbers at the edges of 64 bits, and between.
func samples() []uint64 {
	l := []uint64{0, 1, 2, 3, 5, 10, 1<<32 - 1, 1 << 32, 1<<32 + 1, 1<<63 - 1, 1 << 63, 1<<63 + 1, 1<<64 - 2, 1<<64 - 1}
	x := uint64(7)
	for range 20 {
		x = x*6364136223846793005 + 1442695040888963407
		l = append(l, x, x>>17, x>>40)
	}
	return l
}

func of(n Num) *big.Int {
	b := new(big.Int).SetUint64(n.Hi)
	return b.Lsh(b, 64).Add(b, new(big.Int).SetUint64(n.Lo))
}

func word(n uint64) *big.Int { return new(big.Int).SetUint64(n) }

func TestMulCmpAdd(t *testing.T) { // 1.1
	if Mul(1<<63, 4) != (Num{Hi: 2}) {
		t.Fatal("the chapter's example")
	}
	l := samples()
	for i, a := range l {
		for j, b := range l {
			if of(Mul(a, b)).Cmp(new(big.Int).Mul(word(a), word(b))) != 0 {
				t.Fatal("Mul", a, b)
			}
			x, y := Num{Hi: a, Lo: l[(i+3)%len(l)]}, Num{Hi: b, Lo: l[(j+5)%len(l)]}
			if x.Cmp(y) != of(x).Cmp(of(y)) {
				t.Fatal("Cmp", x, y)
			}
			want := new(big.Int).Add(of(x), of(y))
			got, ok := x.Add(y)
			if ok != (want.BitLen() <= 128) || ok && of(got).Cmp(want) != 0 || !ok && got != (Num{}) {
				t.Fatal("Add", x, y, got, ok)
			}
		}
	}
}

func TestCmpOfAlikeTops(t *testing.T) { // 1.1
	if (Num{Hi: 4, Lo: 1}).Cmp(Num{Hi: 4, Lo: 2}) != -1 || (Num{Hi: 4, Lo: 2}).Cmp(Num{Hi: 4, Lo: 1}) != 1 {
		t.Fatal("Lo does not tell")
	}
}

func TestSum(t *testing.T) { // 1.1
	if s, ok := Sum(); !ok || s != (Num{}) {
		t.Fatal(s, ok)
	}
	want := new(big.Int)
	l := samples()
	for _, n := range l {
		want.Add(want, word(n))
	}
	if s, ok := Sum(l...); !ok || of(s).Cmp(want) != 0 {
		t.Fatal(s, ok)
	}
}

func TestDivShare(t *testing.T) { // 1.2
	l := samples()
	for _, a := range l {
		for _, b := range l {
			for _, by := range l {
				x := Num{Hi: a, Lo: b}
				q, r, ok := x.Div(by)
				checkDiv(t, of(x), by, q, r, ok)
				s, ok := Share(a, b, by)
				_, left, _ := Mul(a, b).Div(by)
				checkDiv(t, new(big.Int).Mul(word(a), word(b)), by, s, left, ok)
			}
		}
	}
}

func checkDiv(t *testing.T, x *big.Int, by, q, r uint64, ok bool) {
	t.Helper()
	if by == 0 {
		if ok || q != 0 || r != 0 {
			t.Fatal("by 0", x, q, r, ok)
		}
		return
	}
	wq, wr := new(big.Int).QuoRem(x, word(by), new(big.Int))
	if ok != (wq.BitLen() <= 64) {
		t.Fatal("ok", x, by, ok)
	}
	if ok && (word(q).Cmp(wq) != 0 || word(r).Cmp(wr) != 0) || !ok && (q != 0 || r != 0) {
		t.Fatal("quotient", x, by, q, r)
	}
}

func TestFracs(t *testing.T) { // 1.3
	l := samples()
	for _, a := range l {
		for _, b := range l {
			x, y := Frac{Up: a, Down: b}, Frac{Up: b, Down: a | 1}
			want := 1
			if b != 0 {
				want = new(big.Int).Mul(word(a), word(a|1)).Cmp(new(big.Int).Mul(word(b), word(b)))
			}
			if x.Cmp(y) != want || y.Cmp(x) != -want {
				t.Fatal(x, y, x.Cmp(y), want)
			}
		}
	}
	if (Frac{Up: 3}).Cmp(Frac{}) != 0 || (Frac{}).Cmp(Frac{Up: 1<<64 - 1, Down: 1}) != 1 {
		t.Fatal("by 0")
	}
}

func TestLeast(t *testing.T) { // 1.3
	for _, c := range []struct {
		l    []Frac
		want int
	}{
		{nil, -1},
		{[]Frac{{0, 0}}, 0},
		{[]Frac{{5, 0}, {0, 0}}, 0},
		{[]Frac{{5, 0}, {1<<64 - 1, 1}}, 1},
		{[]Frac{{3, 6}, {1, 2}, {1, 3}, {2, 6}}, 2},
		{[]Frac{{1, 2}, {3, 4}, {2, 4}}, 0},
		{[]Frac{{1, 1}, {0, 9}, {0, 1}}, 1},
	} {
		if got := Least(c.l...); got != c.want {
			t.Error(c.l, got, c.want)
		}
	}
}
