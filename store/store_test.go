package store

import (
	"testing"

	"distributary/api"
	"distributary/conf"
	"distributary/valid"
)

const text = "self 1.1.1.1\nlevel l\nzone z l\nrack r z\nhost a r 1 10.0.0.1\nhost b r 2 10.0.0.2\n"

// what is all that can be told of a store.
type what struct {
	gen    int
	text   string
	a, b   int
	sa, sb bool
}

func look(s *Store) what {
	w := what{gen: s.Gen(), text: "none"}
	if s.Now() != nil {
		w.text = conf.Text(s.Now().Config)
	}
	w.a, w.sa = s.Set("a")
	w.b, w.sb = s.Set("b")
	return w
}

func weight(s *Store, name string) int {
	return s.Now().Node(s.Now().Find(name)).Weight
}

func TestLoad(t *testing.T) { // 20.1, 20.2, 20.5
	s := New()
	if s.Gen() != 0 || s.Now() != nil || s.Weight("a", 1) != api.ErrState || s.Weight("a", -1) != api.ErrState {
		t.Fatal("new")
	}
	if line, e := s.Load(text); line != 0 || e != api.OK || s.Gen() != 1 || weight(s, "b") != 2 {
		t.Fatal(line, e)
	}
	if s.Weight("b", 7) != api.OK || s.Gen() != 2 || weight(s, "b") != 7 || weight(s, "a") != 1 {
		t.Fatal("Weight")
	}
	if w, ok := s.Set("b"); w != 7 || !ok {
		t.Fatal("Set")
	}
	if w, ok := s.Set("a"); w != 0 || ok {
		t.Fatal("Set of one that was not set")
	}
	was := look(s)
	for i, c := range []struct {
		text string
		line int
		want api.Errno
	}{{"x", 1, api.ErrWord}, {text + "factor 5", 7, api.ErrRange}, {"level l\nhost a l 1 1.1.1.1", 0, api.ErrTree}, {"level l\nview ::/0 3", 0, api.ErrRange}, {string(make([]byte, 70000)), 0, api.ErrLong}} {
		if line, e := s.Load(c.text); line != c.line || e != c.want || look(s) != was {
			t.Error(i, line, e)
		}
	}
	for i, c := range []struct {
		name string
		w    int
		want api.Errno
	}{{"x", -1, api.ErrWeight}, {"a", 65536, api.ErrWeight}, {"x", 1, api.ErrNone}, {"r", 1, api.ErrNone}, {"l", 1, api.ErrNone}, {"", 1, api.ErrNone}} {
		if e := s.Weight(c.name, c.w); e != c.want || look(s) != was {
			t.Error(i, e)
		}
	}
	if s.Weight("a", 65535) != api.OK || s.Weight("a", 0) != api.OK || weight(s, "a") != 0 || s.Gen() != 4 {
		t.Error("edges")
	}
	if w, ok := s.Set("a"); w != 0 || !ok {
		t.Error("a weight 0 that was set")
	}
	if _, e := s.Load(text); e != api.OK || s.Gen() != 5 || weight(s, "b") != 2 {
		t.Error("loaded again")
	}
	if _, ok := s.Set("b"); ok {
		t.Error("weights that were set are forgotten")
	}
}

func TestNowStays(t *testing.T) { // R3: what was told is not written
	s := New()
	s.Load(text)
	now := s.Now()
	was := conf.Text(now.Config)
	s.Weight("a", 9)
	if conf.Text(now.Config) != was || now.Node(3).Weight != 1 && now.Node(now.Find("a")).Weight != 1 {
		t.Fatal("written")
	}
	if x, e := valid.New(s.Now().Config); e != api.OK || !valid.Same(x.Config, s.Now().Config) {
		t.Fatal("what holds may be")
	}
}

func TestCommit(t *testing.T) { // 20.3
	s := New()
	a := s.Begin()
	if a.Weight("a", 5) != api.OK || a.Load(text) != api.OK || s.Gen() != 0 || s.Now() != nil {
		t.Fatal("waits")
	}
	if a.Commit() != api.ErrState || s.Gen() != 0 || s.Now() != nil || a.Commit() != api.ErrState || a.Load(text) != api.ErrState || a.Weight("a", 1) != api.ErrState {
		t.Fatal("the first error; over")
	}
	b := s.Begin()
	b.Load("level x")
	b.Load(text)
	b.Weight("a", 5)
	b.Weight("b", 6)
	b.Weight("a", 8)
	if b.Commit() != api.OK || s.Gen() != 1 || weight(s, "a") != 8 || weight(s, "b") != 6 {
		t.Fatal("as one")
	}
	was := look(s)
	if was.a != 8 || !was.sa || was.b != 6 {
		t.Fatal(was)
	}
	for i, c := range []struct {
		fill func(x *Txn)
		want api.Errno
	}{
		{func(x *Txn) {}, api.OK}, {func(x *Txn) { x.Weight("a", 1); x.Weight("x", 1) }, api.ErrNone}, {func(x *Txn) { x.Weight("a", 1); x.Load("y") }, api.ErrWord},
		{func(x *Txn) { x.Load(text); x.Load("level l\nview ::/0 3"); x.Load("y") }, api.ErrRange}, {func(x *Txn) { x.Weight("a", -1) }, api.ErrWeight}, {func(x *Txn) { x.Load(text); x.Drop() }, api.ErrState},
	} {
		x := s.Begin()
		c.fill(x)
		if e := x.Commit(); e != c.want || look(s) != was {
			t.Error(i, e, look(s))
		}
	}
	x := s.Begin()
	x.Weight("", -7)
	if x.Commit() != api.OK || s.Gen() != 2 || s.Now().Len() != 0 {
		t.Error("a name that is empty is the empty text")
	}
}

func TestStale(t *testing.T) { // 20.3
	s := New()
	s.Load(text)
	a, b, c := s.Begin(), s.Begin(), s.Begin()
	a.Weight("a", 3)
	b.Weight("a", 4)
	if a.Commit() != api.OK || b.Commit() != api.ErrStale || weight(s, "a") != 3 || b.Commit() != api.ErrState {
		t.Fatal("the second one")
	}
	if c.Commit() != api.ErrStale || s.Gen() != 2 {
		t.Fatal("without changes")
	}
	d := s.Begin()
	s.Begin().Commit()
	s.Load("y")
	if d.Weight("a", 9) != api.OK || d.Commit() != api.OK {
		t.Fatal("nothing took hold since")
	}
}

func TestFull(t *testing.T) { // 20.3
	s := New()
	s.Load(text)
	x := s.Begin()
	for range MaxChanges {
		if x.Weight("a", 3) != api.OK {
			t.Fatal("wait")
		}
	}
	if MaxChanges != 64 || x.Weight("a", 3) != api.ErrFull || x.Load(text) != api.ErrFull || x.Commit() != api.OK || s.Gen() != 2 || x.Load(text) != api.ErrState {
		t.Fatal("full")
	}
}

func TestNone(t *testing.T) { // 20.4
	for _, s := range []*Store{nil, {}} {
		line, e := s.Load(text)
		w, ok := s.Set("a")
		if line != 0 || e != api.ErrState || s.Weight("a", 1) != api.ErrState || s.Gen() != 0 || s.Now() != nil || w != 0 || ok || s.Begin() != nil {
			t.Error("no store")
		}
	}
	for _, x := range []*Txn{nil, {}} {
		x.Drop()
		if x.Load(text) != api.ErrState || x.Weight("a", 1) != api.ErrState || x.Commit() != api.ErrState {
			t.Error("no changes")
		}
	}
}
