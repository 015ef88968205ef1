package flow

import (
	"math"
	"slices"
	"testing"

	"distributary/addr"
	"distributary/api"
	"distributary/mix"
)

func tuple(n int) api.Tuple {
	return api.Tuple{Proto: n % 3, Src: api.Addr{V6: n%2 == 1, Lo: uint64(n)}, Dst: addr.V4(7), SPort: n, DPort: 80}
}

func TestHash(t *testing.T) { // 27.1
	base := api.Tuple{Proto: 6, Src: api.Addr{Hi: 1, Lo: 2}, Dst: api.Addr{Hi: 3, Lo: 4}, SPort: 5, DPort: -6}
	for versions := range uint64(4) {
		x := base
		x.Src.V6, x.Dst.V6 = versions&1 != 0, versions&2 != 0
		minus := -6
		if Hash(9, x) != mix.Of(9, versions, 6, 1, 2, 3, 4, 5, uint64(minus)) {
			t.Error(versions)
		}
	}
}

// plain is a table as a list, the one that was used last first.
type plain struct {
	most int
	l    []Entry
}

func (p *plain) find(x api.Tuple) int {
	return slices.IndexFunc(p.l, func(e Entry) bool { return e.Tuple == x })
}

func (p *plain) front(at int) {
	e := p.l[at]
	p.l = slices.Insert(slices.Delete(p.l, at, at+1), 0, e)
}

func (p *plain) put(e Entry) (Entry, bool) {
	if at := p.find(e.Tuple); at >= 0 {
		p.front(at)
		p.l[0] = e
		return Entry{}, false
	}
	gone, full := Entry{}, len(p.l) == p.most
	if full {
		gone = p.l[len(p.l)-1]
		p.l = p.l[:len(p.l)-1]
	}
	p.l = slices.Insert(p.l, 0, e)
	return gone, full
}

func (p *plain) goes(which func(e Entry) bool) []Entry {
	gone := []Entry{}
	p.l = slices.DeleteFunc(p.l, func(e Entry) bool {
		if which(e) {
			gone = append(gone, e)
		}
		return which(e)
	})
	return gone
}

func TestAgainstPlain(t *testing.T) { // 27.1 to 27.4
	for _, most := range []int{1, 2, 3, 7, 50, 4096} {
		x, e := New(most, 5)
		if e != api.OK {
			t.Fatal(e)
		}
		p := &plain{most: most}
		r := uint64(most)
		for i := range 4000 {
			r = mix.One(r + 1)
			f, h, now := tuple(int(r>>20%60)), int(r>>30%5), int64(r>>40%20)
			switch r % 16 {
			case 0, 1:
				at := p.find(f)
				if x.Remove(f) != (at >= 0) {
					t.Fatal("Remove", i)
				}
				if at >= 0 {
					p.l = slices.Delete(p.l, at, at+1)
				}
			case 2, 3:
				at := p.find(f)
				if x.Touch(f) != (at >= 0) {
					t.Fatal("Touch", i)
				}
				if at >= 0 {
					p.front(at)
				}
			case 4:
				if r>>10%8 == 0 && !slices.Equal(x.Late(now), p.goes(func(e Entry) bool { return e.Until <= now })) {
					t.Fatal("Late", i)
				}
			case 5:
				if r>>10%8 == 0 && !slices.Equal(x.Of(h, 9, h), p.goes(func(e Entry) bool { return e.Host == h })) {
					t.Fatal("Of", i)
				}
			case 6:
				if r>>10%32 == 0 && !slices.Equal(x.Clear(), p.goes(func(e Entry) bool { return true })) {
					t.Fatal("Clear", i)
				}
			default:
				n := Entry{Tuple: f, Host: h, State: i, Until: now}
				a, ok := x.Put(n)
				if b, full := p.put(n); a != b || ok != full {
					t.Fatal("Put", i, a, ok)
				}
			}
			at := p.find(f)
			want := Entry{}
			if at >= 0 {
				want = p.l[at]
			}
			if got, ok := x.Get(f); got != want || ok != (at >= 0) || x.Len() != len(p.l) || x.Most() != most || !slices.Equal(x.All(), p.l) {
				t.Fatal("tells", i)
			}
		}
	}
}

func TestEdges(t *testing.T) { // 27.1, 27.2, 27.3
	for _, most := range []int{0, -1, 4097, math.MaxInt, math.MinInt} {
		if x, e := New(most, 1); x != nil || e != api.ErrArg {
			t.Error(most, e)
		}
	}
	x, _ := New(1, 1)
	x.Put(Entry{Tuple: tuple(1), Host: 4})
	if e, ok := x.Put(Entry{Tuple: tuple(2)}); e != (Entry{Tuple: tuple(1), Host: 4}) || !ok {
		t.Error("a second flow lets the first one go")
	}
	if len(x.Of()) != 0 || x.Len() != 1 || len(x.Late(-1)) != 0 {
		t.Error("nothing goes")
	}
	x.All()[0].Host = 99
	if e, _ := x.Get(tuple(2)); e.Host != 0 {
		t.Error("shared")
	}
	for _, x := range []*Table{nil, {}} {
		a, ok := x.Get(tuple(1))
		b, full := x.Put(Entry{Tuple: tuple(1)})
		if a != (Entry{}) || ok || b != (Entry{}) || full || x.Touch(tuple(1)) || x.Remove(tuple(1)) || x.Len() != 0 || x.Most() != 0 || len(x.All()) != 0 || len(x.Late(9)) != 0 || len(x.Of(0)) != 0 || len(x.Clear()) != 0 {
			t.Error("no table")
		}
	}
}
