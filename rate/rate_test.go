package rate

import (
	"math"
	"testing"

	"distributary/api"
)

func bucket(t *testing.T, each, most int64) *Bucket {
	t.Helper()
	b, e := New(Rule{each, most})
	if e != api.OK {
		t.Fatal(e)
	}
	return b
}

func TestRight(t *testing.T) { // 37.1
	for _, c := range []struct {
		r    Rule
		want bool
	}{{Rule{0, 1}, true}, {Rule{1 << 40, 1 << 40}, true}, {Rule{-1, 1}, false}, {Rule{1<<40 + 1, 1}, false}, {Rule{0, 0}, false}, {Rule{0, -1}, false}, {Rule{0, 1<<40 + 1}, false}, {Rule{math.MaxInt64, math.MaxInt64}, false}} {
		b, e := New(c.r)
		if Right(c.r) != c.want || (e == api.OK) != c.want || (b != nil) != c.want || !c.want && e != api.ErrArg {
			t.Error(c.r, e)
		}
	}
}

func TestGoTake(t *testing.T) { // 37.1
	b := bucket(t, 2, 5)
	if b.Have() != 5 || b.Now() != 0 || b.Take(6) || b.Take(-1) || b.Take(math.MinInt64) || b.Take(math.MaxInt64) || b.Have() != 5 || !b.Take(0) || !b.Take(5) || b.Take(1) || b.Have() != 0 {
		t.Fatal("Take")
	}
	if b.Go(2) != api.OK || b.Have() != 4 || b.Now() != 2 || b.Go(2) != api.OK || b.Have() != 4 || b.Go(3) != api.OK || b.Have() != 5 {
		t.Fatal("Go", b.Have())
	}
	b.Take(3)
	for _, now := range []int64{2, -1, math.MinInt64, 1<<40 + 1, math.MaxInt64} {
		if b.Go(now) != api.ErrRange || b.Now() != 3 || b.Have() != 2 {
			t.Fatal(now)
		}
	}
	if b.Go(1<<40) != api.OK || b.Have() != 5 {
		t.Fatal("the greatest time")
	}
	b = bucket(t, 1<<40, 1<<40)
	b.Take(1 << 40)
	if b.Go(1<<40) != api.OK || b.Have() != 1<<40 {
		t.Fatal("great numbers")
	}
	b = bucket(t, 0, 7)
	b.Take(7)
	if b.Go(1000) != api.OK || b.Have() != 0 {
		t.Fatal("nothing each")
	}
}

func TestWait(t *testing.T) { // 37.2
	for _, c := range []struct{ each, most, take, now, n, want int64 }{
		{2, 5, 5, 0, 0, 0}, {2, 5, 5, 0, 1, 1}, {2, 5, 5, 0, 2, 1}, {2, 5, 5, 0, 3, 2}, {2, 5, 5, 0, 5, 3}, {2, 5, 5, 0, 6, -1}, {2, 5, 5, 0, -1, -1}, {0, 5, 5, 0, 1, -1}, {0, 5, 4, 9, 1, 9}, {0, 5, 4, 9, 2, -1}, {3, 5, 1, 7, 4, 7},
		{1, 1 << 40, 1 << 40, 0, 1 << 40, 1 << 40}, {1, 1 << 40, 1 << 40, 1, 1 << 40, 1 << 40}, {1 << 40, 1 << 40, 1 << 40, 0, 1 << 40, 1}, {2, 5, 5, 0, math.MaxInt64, -1}, {2, 5, 5, 0, math.MinInt64, -1},
	} {
		b := bucket(t, c.each, c.most)
		b.Take(c.take)
		b.Go(c.now)
		if got := b.Wait(c.n); got != c.want || b.Now() != c.now {
			t.Error(c, got)
		}
	}
	b := bucket(t, 1, 1<<40)
	b.Go(5)
	b.Take(1 << 40)
	if b.Wait(1<<40-5) != 1<<40 || b.Wait(1<<40-4) != -1 {
		t.Error("up to the greatest time")
	}
}

func TestWaitIsTheLeastTime(t *testing.T) { // 37.2
	for each := range int64(5) {
		for take := range int64(8) {
			for n := range int64(10) {
				b := bucket(t, each, 7)
				b.Take(take)
				at := b.Wait(n)
				for now := range int64(30) {
					b.Go(now)
					if can := b.Have() >= n; can != (at >= 0 && now >= at) {
						t.Fatal(each, take, n, at, now)
					}
				}
			}
		}
	}
}

func TestTwo(t *testing.T) { // 37.2
	two := Two{Bucket: bucket(t, 1, 5), Over: bucket(t, 1, 3)}
	if two.Pass(4) || two.Have() != 5 || two.Over.Have() != 3 || two.Pass(-1) || !two.Pass(2) || two.Have() != 3 || two.Over.Have() != 1 || two.Pass(2) || two.Have() != 3 || !two.Pass(0) {
		t.Error("both, or neither")
	}
	two = Two{Bucket: bucket(t, 1, 3), Over: bucket(t, 1, 5)}
	if two.Pass(4) || two.Over.Have() != 5 || !two.Pass(3) || two.Over.Have() != 2 {
		t.Error("the other way round")
	}
	for i, two := range []Two{{}, {Bucket: bucket(t, 1, 1)}, {Over: bucket(t, 1, 1)}, {Bucket: &Bucket{}, Over: bucket(t, 1, 1)}} {
		if two.Pass(0) || two.Pass(1) || i == 1 && two.Have() != 1 {
			t.Error(i)
		}
	}
	same := bucket(t, 1, 3)
	Two{same, same}.Pass(2) // nothing is promised, but an end
}

func TestNone(t *testing.T) { // 37.2
	for _, b := range []*Bucket{nil, {}, {Rule: Rule{1, 5}}} {
		if b.Go(1) != api.ErrState || b.Have() != 0 || b.Now() != 0 || b.Take(0) || b.Take(1) || b.Wait(0) != -1 || b.Wait(1) != -1 {
			t.Error("no bucket")
		}
	}
}

func TestNoMore(t *testing.T) { // 37.3
	b := bucket(t, 3, 10)
	r, taken := uint64(1), int64(0)
	for now := range int64(2000) {
		r = r*6364136223846793005 + 1442695040888963407
		b.Go(now)
		if n := int64(r >> 61); b.Take(n) {
			taken += n
		}
		if taken > 10+3*now {
			t.Fatal(now, taken)
		}
	}
}
