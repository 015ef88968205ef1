package count

import (
	"math"
	"sync"
	"sync/atomic"
	"testing"

	"distributary/api"
)

func TestBoard(t *testing.T) { // 31.1
	var b Board
	if b.Sum() != (Sum{}) || Size != 26 {
		t.Fatal("zero value")
	}
	for e := api.Errno(-2); e < 30; e++ {
		for range int(e) + 3 {
			b.In(e)
		}
	}
	b.Out(5)
	b.Out(0)
	b.Out(-7)
	b.Out(100)
	want := Sum{In: 32 * 33 / 2, Out: 4, Bytes: 105}
	for e := range want.Errs {
		want.Errs[e] = int64(e) + 3
	}
	if b.Sum() != want {
		t.Fatal(b.Sum())
	}
	for _, e := range []api.Errno{-1, 26, math.MaxInt, math.MinInt} {
		if b.Of(e) != 0 {
			t.Error(e)
		}
	}
	if b.Of(api.OK) != 3 || b.Of(api.ErrBig) != 28 {
		t.Error("Of")
	}
	if b.Clear() != want || b.Sum() != (Sum{}) || b.Clear() != (Sum{}) {
		t.Error("Clear")
	}
}

func TestPlus(t *testing.T) { // 31.1
	a, b := Sum{In: 1, Out: 2, Bytes: math.MaxInt64}, Sum{In: 10, Out: 20, Bytes: 1}
	a.Errs[3], b.Errs[3], b.Errs[25] = 4, 5, 6
	got := a.Plus(b)
	want := Sum{In: 11, Out: 22, Bytes: math.MinInt64}
	want.Errs[3], want.Errs[25] = 9, 6
	if got != want || a.In != 1 {
		t.Error(got)
	}
}

func TestLimit(t *testing.T) { // 31.2
	for _, most := range []int64{math.MinInt64, -1, 0, 1, 5} {
		l := NewLimit(most)
		if l.Give() || l.Taken() != 0 {
			t.Error("nothing is taken")
		}
		for n := range max(most, 0) {
			if !l.Take() || l.Taken() != n+1 {
				t.Error("Take", most, n)
			}
		}
		if l.Take() || l.Taken() != max(most, 0) || l.Give() != (most > 0) || l.Taken() != max(max(most, 0)-1, 0) {
			t.Error("at the limit", most)
		}
	}
	if l := NewLimit(math.MaxInt64); !l.Take() || l.Taken() != 1 {
		t.Error("the greatest limit")
	}
}

func TestAtOnce(t *testing.T) { // 31.1, 31.2
	var b Board
	var wait sync.WaitGroup
	var took atomic.Int64
	l := NewLimit(1000)
	for range 8 {
		wait.Go(func() {
			for i := range 500 {
				b.In(api.Errno(i % Size))
				b.Out(2)
				if l.Take() {
					took.Add(1)
				}
			}
		})
	}
	wait.Wait()
	s := b.Sum()
	if s.In != 4000 || s.Out != 4000 || s.Bytes != 8000 || s.Errs[0] != 8*20 || took.Load() != 1000 || l.Taken() != 1000 {
		t.Error(s, took.Load())
	}
}

func TestNone(t *testing.T) { // 31.2
	var b *Board
	b.In(1)
	b.Out(1)
	var l *Limit
	if b.Of(1) != 0 || b.Sum() != (Sum{}) || b.Clear() != (Sum{}) || l.Take() || l.Give() || l.Taken() != 0 {
		t.Error("nil")
	}
}
