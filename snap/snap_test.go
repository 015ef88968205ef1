package snap

import (
	"bytes"
	"reflect"
	"slices"
	"strings"
	"testing"

	"distributary/addr"
	"distributary/api"
	"distributary/conn"
	"distributary/health"
	"distributary/pkt"
	"distributary/step"
)

const text = "self 10.0.0.254\nlevel l\nzone z l\nrack r z\nhost a r 1 10.1.0.1\nhost b r 2 10.1.0.2\nvip 10.0.0.1 tcp 80\n"

func setup() step.Setup {
	return step.Setup{Flows: 5, Seed: 1, Health: health.Rule{Every: 50, Timeout: 49, Rise: 1, Fall: 1}, Conn: conn.Plain()}
}

func ops() []api.Op {
	l := []api.Op{{Kind: 4, Data: []byte(text)}, {Kind: 3, N: 1}, {Kind: 2, Host: 3, Up: true}, {Kind: 2, Host: 4, Up: true}, {Kind: 99}, {Kind: 6, Name: "a", N: 7}, {Kind: 5, Name: "x", Up: true}}
	for n := range 9 {
		b, _ := pkt.Segment(api.Tuple{Proto: 6, Src: addr.V4(uint32(n)), Dst: addr.V4(0x0a000001), SPort: 9, DPort: 80}, 9, 2, []byte{byte(n)})
		l = append(l, api.Op{Kind: 1, Data: b})
	}
	return l
}

// plain are ops without a difference between nil and empty lists.
func plain(l []api.Op) []api.Op {
	out := []api.Op{}
	for _, o := range l {
		o.Data = append([]byte{}, o.Data...)
		out = append(out, o)
	}
	return out
}

func TestRight(t *testing.T) { // 44.1
	for i, c := range []struct {
		o    api.Op
		want bool
	}{
		{api.Op{}, true}, {api.Op{Kind: 255, Host: 1<<32 - 1, N: 1<<32 - 1, Up: true, Data: make([]byte, 65536), Name: strings.Repeat("x", 255)}, true}, {api.Op{Kind: 256}, false}, {api.Op{Kind: -1}, false}, {api.Op{Data: make([]byte, 65537)}, false},
		{api.Op{Name: strings.Repeat("x", 256)}, false}, {api.Op{Host: -1}, false}, {api.Op{Host: 1 << 32}, false}, {api.Op{N: -1}, false}, {api.Op{N: 1 << 32}, false},
	} {
		d, _ := New(setup())
		told, e := d.Act(c.o)
		b, f := Bytes(api.Op{}, c.o)
		if Right(c.o) != c.want || (e == api.OK) != c.want || (f == api.OK) != c.want || (len(d.Ops()) == 1) != c.want || !c.want && (e != api.ErrArg || f != api.ErrArg || b != nil || !reflect.DeepEqual(told, api.Told{})) {
			t.Error(i, e, f)
		}
		if got, g := Read(b); c.want && (g != api.OK || !reflect.DeepEqual(plain(got), plain([]api.Op{{}, c.o}))) {
			t.Error("read", i, g)
		}
	}
}

func TestAct(t *testing.T) { // 44.1, 44.3
	if d, e := New(step.Setup{}); d != nil || e != api.ErrArg {
		t.Error(e)
	}
	d, _ := New(setup())
	m, _ := step.New(setup())
	for i, o := range ops() {
		data := bytes.Clone(o.Data)
		told, e := d.Act(o)
		if e != api.OK || !reflect.DeepEqual(told, m.Do(o)) || len(d.Ops()) != i+1 {
			t.Fatal(i, e)
		}
		clear(o.Data)
		if !bytes.Equal(d.Ops()[i].Data, data) {
			t.Fatal("kept")
		}
		copy(o.Data, data)
	}
	clear(d.Ops()[0].Data)
	if !reflect.DeepEqual(plain(d.Ops()), plain(ops())) {
		t.Fatal("shared")
	}
	again, e := Again(setup(), d.Ops()...)
	if e != api.OK || !reflect.DeepEqual(plain(again.Ops()), plain(ops())) || !slices.Equal(again.Pins().All(), d.Pins().All()) || again.Pins().Len() != 5 || again.Counts().Sum() != d.Counts().Sum() || again.Gen() != d.Gen() {
		t.Fatal("again", e)
	}
	for i, d := range []*Diary{nil, {}, {Machine: m}} {
		told, e := d.Act(api.Op{Kind: 3})
		if e != api.ErrState || !reflect.DeepEqual(told, api.Told{}) || len(d.Ops()) != 0 {
			t.Error("no diary", i)
		}
	}
}

func TestFull(t *testing.T) { // 44.1, 44.2
	d, _ := New(setup())
	l := make([]api.Op, 2048)
	for _, o := range l {
		if _, e := d.Act(o); e != api.OK {
			t.Fatal(e)
		}
	}
	if _, e := d.Act(api.Op{}); e != api.ErrFull || len(d.Ops()) != 2048 || MaxOps != 2048 {
		t.Error(e)
	}
	if _, e := d.Act(api.Op{Kind: -1}); e != api.ErrArg {
		t.Error("ErrArg is first", e)
	}
	b, e := Bytes(l...)
	if got, f := Read(b); e != api.OK || f != api.OK || len(got) != 2048 {
		t.Error(e, f)
	}
	if x, e := Again(setup(), l...); e != api.OK || len(x.Ops()) != 2048 {
		t.Error(e)
	}
	l = append(l, api.Op{Kind: -1})
	if b, e := Bytes(l...); e != api.ErrFull || b != nil {
		t.Error(e)
	}
	l[2048].Kind = 0
	if x, e := Again(setup(), l...); e != api.ErrFull || x != nil {
		t.Error(e)
	}
	if x, e := Again(setup(), api.Op{Kind: 300}); e != api.ErrArg || x != nil {
		t.Error(e)
	}
	if x, e := Again(step.Setup{}, api.Op{Kind: 300}); e != api.ErrArg || x != nil {
		t.Error(e)
	}
}

func TestBytes(t *testing.T) { // 44.2
	if b, e := Bytes(); e != api.OK || string(b) != "DST1\x00\x00\x00\x00" {
		t.Error(b, e)
	}
	b, e := Bytes(api.Op{Kind: 5, Up: true, Host: 0x01020304, N: 0xf1020304, Data: []byte("abc"), Name: "xy"})
	if e != api.OK || string(b) != "DST1\x00\x00\x00\x01\x05\x01\x01\x02\x03\x04\xf1\x02\x03\x04\x00\x00\x00\x03abc\x02xy" {
		t.Error(b, e)
	}
	if got, e := Read(b); e != api.OK || len(got) != 1 || got[0].N != 0xf1020304 || got[0].Name != "xy" || !got[0].Up {
		t.Error(got, e)
	} else if clear(b); string(got[0].Data) != "abc" {
		t.Error("shared")
	}
}

func TestRead(t *testing.T) { // 44.2, 44.3
	one := "DST1\x00\x00\x00\x01\x05\x01\x01\x02\x03\x04\xf1\x02\x03\x04\x00\x00\x00\x03abc\x02xy"
	for n := range len(one) {
		if l, e := Read([]byte(one[:n])); e != api.ErrShort || l != nil {
			t.Error(n, e)
		}
	}
	head := "DST1\x00\x00\x00\x01\x05\x01\x01\x02\x03\x04\xf1\x02\x03\x04"
	for i, c := range []struct {
		s    string
		want api.Errno
	}{
		{one, api.OK}, {one + "x", api.ErrLong}, {"DST1\x00\x00\x00\x00x", api.ErrLong}, {"XXX", api.ErrShort}, {"DST2", api.ErrForm}, {"dst1\x00\x00\x00\x00", api.ErrForm}, {"DST1\x00\x00\x08\x01", api.ErrFull}, {"DST1\xff\xff\xff\xff", api.ErrFull}, {"DST1\x00\x00\x08\x00", api.ErrShort},
		{"DST1\x00\x00\x00\x01\x05\x02", api.ErrForm}, {"DST1\x00\x00\x00\x01\x05\x02" + one[10:], api.ErrForm}, {head + "\x00\x01\x00\x01", api.ErrLong}, {head + "\xff\xff\xff\xff", api.ErrLong}, {head + "\x00\x01\x00\x00", api.ErrShort},
	} {
		l, e := Read([]byte(c.s))
		if e != c.want || e != api.OK && l != nil {
			t.Error(i, e)
		}
		if b, f := Bytes(l...); e == api.OK && (f != api.OK || string(b) != c.s) {
			t.Error("just these bytes", i)
		}
	}
	b, _ := Bytes(ops()...)
	for at := range b {
		for _, v := range []byte{0, 1, 2, 127, 255} {
			c := bytes.Clone(b)
			c[at] = v
			if l, e := Read(c); e == api.OK {
				if d, f := Bytes(l...); f != api.OK || !bytes.Equal(d, c) {
					t.Fatal(at, v)
				}
			}
		}
	}
}
