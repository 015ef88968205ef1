package hist

import (
	"math"
	"math/big"
	"slices"
	"testing"

	"distributary/wide"
)

func numbers(n int, by uint64) []uint64 {
	l := []uint64{}
	for range n {
		by = by*6364136223846793005 + 1442695040888963407
		l = append(l, by>>(by>>58))
	}
	return l
}

func TestBuckets(t *testing.T) { // 38.1
	for _, v := range append(numbers(500, 1), 0, 1, 2, 3, 4, 7, 8, 1<<63-1, 1<<63, 1<<64-1) {
		n := new(big.Int).SetUint64(v).BitLen()
		least, most, ok := Bounds(n)
		if Bucket(v) != n || !ok || v < least || v > most {
			t.Fatal(v, least, most)
		}
	}
	next := uint64(0)
	for k := range Buckets {
		least, most, ok := Bounds(k)
		if !ok || least != next || Bucket(least) != k || Bucket(most) != k {
			t.Fatal(k, least, most)
		}
		next = most + 1
	}
	if next != 0 || Buckets != 65 {
		t.Fatal("not all numbers")
	}
	for _, k := range []int{-1, 65, math.MaxInt, math.MinInt} {
		var h Hist
		h.Add(1)
		if least, most, ok := Bounds(k); least != 0 || most != 0 || ok || h.Count(k) != 0 {
			t.Error(k)
		}
	}
}

// check is that a histogram tells of numbers what is so.
func check(t *testing.T, h *Hist, l []uint64) {
	t.Helper()
	s := slices.Sorted(slices.Values(l))
	least, most := h.Ends()
	if h.Len() != uint64(len(l)) || len(l) == 0 && (least != 0 || most != 0 || h.Mean() != 0) {
		t.Fatal("Len", h.Len())
	}
	for k := range Buckets {
		n := 0
		for _, v := range l {
			if Bucket(v) == k {
				n++
			}
		}
		if h.Count(k) != uint64(n) {
			t.Fatal("Count", k)
		}
	}
	for _, part := range []int{-1, 1001, math.MaxInt, math.MinInt} {
		if h.Quantile(part) != -1 {
			t.Fatal("Quantile", part)
		}
	}
	if len(l) == 0 {
		if h.Quantile(0) != -1 || h.Quantile(500) != -1 {
			t.Fatal("Quantile of none")
		}
		return
	}
	sum := new(big.Int)
	for _, v := range l {
		sum.Add(sum, new(big.Int).SetUint64(v))
	}
	if least != s[0] || most != s[len(s)-1] || h.Mean() != sum.Div(sum, big.NewInt(int64(len(l)))).Uint64() {
		t.Fatal("Ends, Mean", least, most, h.Mean())
	}
	for part := 0; part <= 1000; part++ {
		if h.Quantile(part) != Bucket(s[(len(s)-1)*part/1000]) {
			t.Fatal("Quantile", part)
		}
	}
}

func TestHist(t *testing.T) { // 38.1, 38.2
	for n := range 60 {
		l := numbers(n, uint64(n))
		var h Hist
		h.Add(l[:n/2]...)
		h.Add()
		h.Add(l[n/2:]...)
		check(t, &h, l)
		h.Clear()
		check(t, &h, nil)
	}
	var h Hist
	h.Add(1<<64-1, 1<<64-1, 1<<64-1)
	check(t, &h, []uint64{1<<64 - 1, 1<<64 - 1, 1<<64 - 1})
	h.Clear()
	h.Add(0)
	check(t, &h, []uint64{0})
	h.Add(9)
	check(t, &h, []uint64{0, 9})
}

func TestJoin(t *testing.T) { // 38.2, 38.3
	a, b := numbers(20, 1), numbers(30, 2)
	var x, y, empty Hist
	x.Add(a...)
	y.Add(b...)
	x.Join(&y, nil, &empty)
	check(t, &x, slices.Concat(a, b))
	check(t, &y, b)
	x.Join()
	x.Join(&x, &y, &x)
	check(t, &x, slices.Concat(a, b, b, a, b, a, b))
	var p, q Hist
	p.Join(&y)
	p.Add(a...)
	slices.Reverse(a)
	q.Add(a...)
	q.Join(&y)
	if p != q {
		t.Fatal("the order matters")
	}
}

func TestMany(t *testing.T) { // up to 2^63 numbers
	var h Hist
	h.Add(1<<64 - 1)
	for range 63 {
		h.Join(&h)
	}
	if h.Len() != 1<<63 || h.Mean() != 1<<64-1 || h.Quantile(1000) != 64 || h.Quantile(0) != 64 || h.sum != (wide.Num{Hi: 1<<63 - 1, Lo: 1 << 63}) {
		t.Fatal(h.Len(), h.Mean(), h.sum)
	}
}

func TestNone(t *testing.T) { // 38.2
	var h *Hist
	h.Add(1)
	var one Hist
	one.Add(1)
	h.Join(&one)
	h.Clear()
	least, most := h.Ends()
	if h.Len() != 0 || least != 0 || most != 0 || h.Mean() != 0 || h.Count(0) != 0 || h.Quantile(0) != -1 {
		t.Error("nil")
	}
}
