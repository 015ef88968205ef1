package health

import (
	"math"
	"slices"
	"testing"

	"distributary/api"
)

func board(t *testing.T, r Rule, ids ...int) *Board {
	t.Helper()
	b, e := New(r)
	if e != api.OK || b.Set(ids...) != api.OK {
		t.Fatal(e)
	}
	return b
}

func get(b *Board, id int) Host {
	h, _ := b.Get(id)
	return h
}

func TestRight(t *testing.T) { // 22.1
	for i, c := range []struct {
		r    Rule
		want bool
	}{
		{Rule{1, 1, 1, 1}, true}, {Rule{1 << 20, 1 << 20, 100, 100}, true}, {Rule{1<<20 + 1, 1, 1, 1}, false}, {Rule{0, 0, 1, 1}, false}, {Rule{5, 6, 1, 1}, false}, {Rule{5, 0, 1, 1}, false}, {Rule{5, -1, 1, 1}, false},
		{Rule{5, 5, 0, 1}, false}, {Rule{5, 5, 101, 1}, false}, {Rule{5, 5, 1, 0}, false}, {Rule{5, 5, 1, 101}, false}, {Rule{math.MinInt64, math.MinInt64, 1, 1}, false}, {Rule{}, false},
	} {
		b, e := New(c.r)
		if Right(c.r) != c.want || (e == api.OK) != c.want || (b == nil) == c.want || !c.want && e != api.ErrArg {
			t.Error(i, e)
		}
	}
	b, _ := New(Rule{1, 1, 1, 1})
	if b.Now() != 0 || len(b.Ids()) != 0 || len(b.Up()) != 0 {
		t.Error("new")
	}
}

func TestSet(t *testing.T) { // 22.1
	b := board(t, Rule{3, 2, 1, 1}, 5, -1, 0, 5, 1<<20, 1<<20+1, math.MinInt, math.MaxInt)
	if !slices.Equal(b.Ids(), []int{0, 5, 1 << 20}) || len(b.Up()) != 0 || MaxId != 1<<20 {
		t.Fatal(b.Ids())
	}
	if h, ok := b.Get(5); h != (Host{}) || !ok {
		t.Fatal(h, ok)
	}
	if h, ok := b.Get(4); h != (Host{}) || ok {
		t.Fatal(h, ok)
	}
	b.Tick()
	b.Answer(5, true)
	b.Answer(0, true)
	if !slices.Equal(b.Up(), []int{0, 5}) {
		t.Fatal(b.Up())
	}
	b.Set(5, 7)
	if !slices.Equal(b.Ids(), []int{5, 7}) || !slices.Equal(b.Up(), []int{5}) || get(b, 5) != (Host{Up: true}) || get(b, 7) != (Host{}) {
		t.Fatal("those that stay, and new ones")
	}
	if asked, _ := b.Tick(); !slices.Equal(asked, []int{7}) {
		t.Fatal("at time 2 the new one is asked", asked)
	}
	b.Set(7)
	b.Set(7, 5)
	if get(b, 5) != (Host{}) || get(b, 7) != (Host{Asked: true}) {
		t.Fatal("one that was gone is new")
	}
	if asked, _ := b.Tick(); !slices.Equal(asked, []int{5}) {
		t.Fatal("at time 3", asked)
	}
	if asked, _ := b.Tick(); len(asked) != 0 {
		t.Fatal("at time 4: what was due of one that was gone is gone", asked)
	}
}

func TestAnswers(t *testing.T) { // 22.2
	b := board(t, Rule{2, 1, 2, 3}, 1)
	if turned, e := b.Answer(1, true); turned || e != api.ErrNone {
		t.Fatal("not asked")
	}
	if turned, e := b.Answer(2, true); turned || e != api.ErrNone {
		t.Fatal("no host")
	}
	steps := []struct {
		ok, turned bool
		h          Host
	}{
		{true, false, Host{Row: 1}}, {false, false, Host{}}, {true, false, Host{Row: 1}}, {true, true, Host{Up: true}}, {false, false, Host{Up: true, Row: 1}}, {false, false, Host{Up: true, Row: 2}},
		{true, false, Host{Up: true}}, {false, false, Host{Up: true, Row: 1}}, {false, false, Host{Up: true, Row: 2}}, {false, true, Host{}}, {false, false, Host{}},
	}
	for i, c := range steps {
		asked, changes := b.Tick()
		if !slices.Equal(asked, []int{1}) || len(changes) != 0 || !get(b, 1).Asked {
			t.Fatal(i, asked, changes)
		}
		if turned, e := b.Answer(1, c.ok); turned != c.turned || e != api.OK || get(b, 1) != c.h {
			t.Fatal(i, turned, e, get(b, 1))
		}
		if _, e := b.Answer(1, c.ok); e != api.ErrNone {
			t.Fatal("twice", i)
		}
		if asked, changes := b.Tick(); len(asked) != 0 || len(changes) != 0 {
			t.Fatal("between", i)
		}
	}
	if b.Now() != int64(2*len(steps)) {
		t.Fatal("the time")
	}
}

func TestDue(t *testing.T) { // 22.2: what is due of a host is its next asking, and an answer that is waited for
	b := board(t, Rule{Every: 5, Timeout: 2, Rise: 1, Fall: 1}, 1, 2)
	for i, next := range []int64{1, 3, 6, 6, 6, 6, 8} {
		if b.Next() != next {
			t.Fatal(i, b.Next())
		}
		b.Tick()
		b.Answer(1, true)
		if i == 1 {
			b.Answer(2, true)
		}
	}
}

func TestTimeouts(t *testing.T) { // 22.2, 22.5
	for _, r := range []Rule{{1, 1, 1, 1}, {1, 1, 1, 3}, {3, 3, 2, 2}, {5, 2, 1, 2}, {7, 7, 1, 1}} {
		b := board(t, r, 4, 2)
		for round := range 12 {
			for at := range r.Every {
				asked, changes := b.Tick()
				if (at == 0) != slices.Equal(asked, []int{2, 4}) || at != 0 && len(asked) != 0 || len(changes) != 0 {
					t.Fatal(r, round, at, asked, changes)
				}
				if get(b, 2).Up || get(b, 4).Up != (round > r.Rise-1 || round == r.Rise-1 && at > 0) {
					t.Fatal("up", r, round, at)
				}
				if waits := get(b, 2).Asked; waits != (at < r.Timeout) {
					t.Fatal("waits", r, round, at, waits)
				}
				if at == 0 {
					b.Answer(4, true)
				}
			}
		}
		// Host 4 answers no more: behind Fall askings it is down.
		asks, down := 0, false
		for !down {
			asked, changes := b.Tick()
			if down = len(changes) > 0; down {
				if !slices.Equal(changes, []Change{{At: b.Now(), Id: 4}}) {
					t.Fatal(changes)
				}
			} else if asks += len(asked) / 2; asks > r.Fall {
				t.Fatal("still up", r)
			}
		}
		if asks != r.Fall || get(b, 4).Up {
			t.Fatal(r, asks)
		}
	}
}

func TestTimeoutComesFirst(t *testing.T) { // 22.2
	b := board(t, Rule{1, 1, 1, 2}, 3)
	b.Tick()
	b.Answer(3, true)
	b.Tick()
	if h := get(b, 3); h != (Host{Up: true, Asked: true}) {
		t.Fatal(h)
	}
	asked, changes := b.Tick() // the answer that lacks counts, then it is asked again
	if h := get(b, 3); h != (Host{Up: true, Asked: true, Row: 1}) || !slices.Equal(asked, []int{3}) || len(changes) != 0 {
		t.Fatal(h, asked, changes)
	}
	asked, changes = b.Tick()
	if h := get(b, 3); h != (Host{Asked: true}) || !slices.Equal(asked, []int{3}) || !slices.Equal(changes, []Change{{4, 3, false}}) {
		t.Fatal(h, asked, changes)
	}
}

func TestGreatestId(t *testing.T) { // 22.1, 22.2, 22.3
	b := board(t, Rule{2, 1, 1, 1}, 0, MaxId)
	b.Tick()
	b.Answer(0, true)
	b.Answer(MaxId, true)
	b.Tick()
	if asked, _ := b.Tick(); !slices.Equal(asked, []int{0, MaxId}) {
		t.Fatal(asked)
	}
	b.Rename(map[int]int{0: MaxId, MaxId: 0})
	b.Answer(0, true)
	asked, changes := b.Tick()
	if len(asked) != 0 || !slices.Equal(changes, []Change{{At: 4, Id: MaxId}}) || !slices.Equal(b.Up(), []int{0}) {
		t.Fatal(asked, changes)
	}
	if asked, _ := b.Tick(); !slices.Equal(asked, []int{0, MaxId}) {
		t.Fatal(asked)
	}
}

func TestRename(t *testing.T) { // 22.3
	b := board(t, Rule{10, 4, 1, 1}, 1, 2, 3)
	b.Tick()
	b.Answer(1, true)
	b.Set(1, 2, 3, 9)
	b.Rename(map[int]int{1: 2, 2: 1, 9: 0, 77: 78})
	if !slices.Equal(b.Ids(), []int{0, 1, 2}) || get(b, 2) != (Host{Up: true}) || get(b, 1) != (Host{Asked: true}) || get(b, 0) != (Host{}) {
		t.Fatal(b.Ids(), get(b, 1), get(b, 2))
	}
	asked := map[int64][]int{}
	waits := []int64{}
	for b.Now() < 25 {
		l, _ := b.Tick()
		if len(l) > 0 {
			asked[b.Now()] = l
		}
		if get(b, 1).Asked {
			waits = append(waits, b.Now())
		}
	}
	if len(asked) != 5 || !slices.Equal(asked[2], []int{0}) || !slices.Equal(asked[11], []int{1, 2}) || !slices.Equal(asked[12], []int{0}) || !slices.Equal(asked[21], []int{1, 2}) {
		t.Fatal(asked)
	}
	if !slices.Equal(waits, []int64{2, 3, 4, 11, 12, 13, 14, 21, 22, 23, 24}) {
		t.Fatal(waits)
	}
	b.Rename(nil)
	if len(b.Ids()) != 0 || b.Len() != 0 {
		t.Fatal("those that are not named")
	}
	b.Set(1, 2)
	b.Rename(map[int]int{1: 5, 2: 5}) // nothing is promised, but an end
	b.Rename(map[int]int{5: -1})
	b.Tick()
}

func TestNone(t *testing.T) { // 22.4
	for _, b := range []*Board{nil, {}} {
		b.Rename(map[int]int{1: 2})
		turned, e := b.Answer(1, true)
		h, ok := b.Get(1)
		asked, changes := b.Tick()
		if b.Set(1) != api.ErrState || turned || e != api.ErrState || h != (Host{}) || ok || len(asked) != 0 || len(changes) != 0 || len(b.Ids()) != 0 || len(b.Up()) != 0 {
			t.Error("no board")
		}
	}
}
