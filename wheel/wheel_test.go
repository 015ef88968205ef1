package wheel

import (
	"math"
	"slices"
	"sort"
	"testing"

	"distributary/api"
)

// plain is a wheel without places: items in order.
type plain struct {
	now int64
	l   []Item
}

func (p *plain) put(x Item) {
	p.l = append(p.l, x)
	sort.SliceStable(p.l, func(i, j int) bool {
		return p.l[i].At < p.l[j].At || p.l[i].At == p.l[j].At && p.l[i].Id < p.l[j].Id
	})
}

func TestAgainstPlain(t *testing.T) { // 21.1, 21.2
	w, p := &Wheel{}, &plain{}
	x := uint64(1)
	for i := range 6000 {
		x = x*6364136223846793005 + 1442695040888963407
		id, step := int(x>>33%7)-3, int64(x>>40%[]uint64{3, 70, 200, 1000}[i%4])
		switch x >> 60 % 8 {
		case 0:
			want := []Item{}
			for len(p.l) > 0 && p.l[0].At <= p.now+step {
				want, p.l = append(want, p.l[0]), p.l[1:]
			}
			p.now += step
			if got, e := w.Go(p.now); e != api.OK || !slices.Equal(got, want) {
				t.Fatal("Go", i, got, want, e)
			}
		case 1:
			n := len(p.l)
			p.l = slices.DeleteFunc(p.l, func(x Item) bool { return x.Id == id })
			if got := w.Cancel(id); got != n-len(p.l) {
				t.Fatal("Cancel", i, got)
			}
		default:
			e := w.Add(Item{At: p.now + step, Id: id})
			if (e == api.OK) != (step > 0) || e != api.OK && e != api.ErrRange {
				t.Fatal("Add", i, e)
			}
			if e == api.OK {
				p.put(Item{At: p.now + step, Id: id})
			}
		}
		next := int64(-1)
		if len(p.l) > 0 {
			next = p.l[0].At
		}
		if w.Now() != p.now || w.Len() != len(p.l) || w.Next() != next || !slices.Equal(w.All(), p.l) {
			t.Fatal("tells", i)
		}
	}
}

func TestEdges(t *testing.T) { // 21.1, 21.2
	var w Wheel
	if w.Now() != 0 || w.Len() != 0 || w.Next() != -1 || len(w.All()) != 0 || w.Cancel(0) != 0 || Slots != 64 {
		t.Fatal("zero value")
	}
	for _, at := range []int64{0, -1, math.MinInt64, 1<<40 + 1, math.MaxInt64} {
		if w.Add(Item{At: at}) != api.ErrRange || w.Len() != 0 {
			t.Error(at)
		}
	}
	if w.Add(Item{At: 1 << 40, Id: 5}) != api.OK || w.Add(Item{At: 70}) != api.OK || w.Add(Item{At: 6}) != api.OK {
		t.Fatal("Add")
	}
	if l, e := w.Go(70); e != api.OK || !slices.Equal(l, []Item{{6, 0}, {70, 0}}) {
		t.Error("the one at 6 first", l)
	}
	for _, to := range []int64{69, -1, math.MinInt64, 1<<40 + 1, math.MaxInt64} {
		if l, e := w.Go(to); e != api.ErrRange || l != nil || w.Now() != 70 || w.Len() != 1 {
			t.Error(to, e)
		}
	}
	if l, e := w.Go(70); e != api.OK || len(l) != 0 {
		t.Error("the same time")
	}
	w.All()[0].Id = 99
	if l, e := w.Go(1 << 40); e != api.OK || !slices.Equal(l, []Item{{1 << 40, 5}}) {
		t.Error("the greatest time", l)
	}
	var none *Wheel
	if l, e := none.Go(1); e != api.ErrRange || l != nil || none.Add(Item{At: 1}) != api.ErrRange || none.Now() != 0 || none.Len() != 0 || none.Next() != -1 || len(none.All()) != 0 || none.Cancel(0) != 0 {
		t.Error("nil")
	}
}
