package six

import (
	"bytes"
	"math"
	"reflect"
	"slices"
	"testing"

	"distributary/addr"
	"distributary/api"
)

func data(units int, fill byte) []byte {
	b := bytes.Repeat([]byte{fill}, 7+8*units)
	b[0] = byte(units)
	return b
}

func part(at int, more bool) Ext {
	n := at << 3
	if more {
		n |= 1
	}
	return Ext{Part, []byte{0x5a, byte(n >> 8), byte(n), 1, 2, 3, 4}}
}

func plain(l ...Ext) Head {
	return Head{Class: 0xab, Label: 0xcdef1, Hop: 9, Src: addr.V6(1, 2), Dst: addr.V6(3, 4), Ext: l, Proto: 17}
}

func TestKinds(t *testing.T) { // 9.1
	for k := -2; k < 300; k++ {
		if Is(k) != (k == 0 || k == 43 || k == 44 || k == 60) {
			t.Error(k)
		}
	}
	if Hops != 0 || Route != 43 || Part != 44 || Options != 60 || Least != 40 || MaxExt != 8 {
		t.Error("names")
	}
}

func TestRightExt(t *testing.T) { // 9.1
	bad := data(1, 0)
	bad[0] = 2
	for i, c := range []struct {
		x    Ext
		at   int
		want bool
	}{
		{Ext{Hops, data(0, 0)}, 0, true}, {Ext{Hops, data(0, 0)}, 1, false}, {Ext{Route, data(0, 9)}, 0, true}, {Ext{Route, data(255, 9)}, 5, true}, {Ext{Options, data(3, 1)}, 100, true},
		{Ext{Options, data(3, 1)}, -1, false}, {Ext{Hops, data(0, 0)}, math.MinInt, false}, {Ext{17, data(0, 0)}, 0, false}, {Ext{-1, data(0, 0)}, 0, false}, {Ext{Route, nil}, 0, false}, {Ext{Route, data(0, 0)[:6]}, 0, false},
		{Ext{Route, append(data(0, 0), 0)}, 0, false}, {Ext{Route, bad}, 0, false}, {part(0, false), 0, true}, {part(7, true), 3, true}, {Ext{Part, data(1, 0)}, 0, false},
		{Ext{Part, nil}, 0, false}, {Ext{Options, data(256, 0)}, 0, false},
	} {
		if RightExt(c.x, c.at) != c.want {
			t.Error(i)
		}
	}
}

func nine() []Ext {
	l := []Ext{}
	for range 9 {
		l = append(l, Ext{Options, data(0, 0)})
	}
	return l
}

func TestRight(t *testing.T) { // 9.1
	for i, c := range []struct {
		change func(h *Head)
		want   bool
	}{
		{func(h *Head) {}, true}, {func(h *Head) { h.Class = 255 }, true}, {func(h *Head) { h.Class = 256 }, false}, {func(h *Head) { h.Class = -1 }, false},
		{func(h *Head) { h.Hop = 255 }, true}, {func(h *Head) { h.Hop = 256 }, false}, {func(h *Head) { h.Hop = -1 }, false},
		{func(h *Head) { h.Label = 1<<20 - 1 }, true}, {func(h *Head) { h.Label = 1 << 20 }, false}, {func(h *Head) { h.Label = -1 }, false},
		{func(h *Head) { h.Src = addr.V4(1) }, false}, {func(h *Head) { h.Dst = addr.V4(1) }, false},
		{func(h *Head) { h.Proto = 255 }, true}, {func(h *Head) { h.Proto = 256 }, false}, {func(h *Head) { h.Proto = -1 }, false}, {func(h *Head) { h.Proto = 0 }, false}, {func(h *Head) { h.Proto = 60 }, false},
		{func(h *Head) { h.Ext = nine()[:8] }, true}, {func(h *Head) { h.Ext = nine() }, false},
		{func(h *Head) { h.Ext = []Ext{{Route, data(0, 0)}, {Hops, data(0, 0)}} }, false},
		{func(h *Head) { h.Ext = []Ext{{Route, data(0, 0)}, part(1, false)} }, true},
		{func(h *Head) { h.Ext = []Ext{part(1, false), {Route, data(0, 0)}} }, false},
		{func(h *Head) { h.Ext = []Ext{part(0, true), {Route, data(0, 0)}} }, true},
		{func(h *Head) { h.Ext = []Ext{part(0, true), part(5, true), {Route, data(0, 0)}} }, true},
		{func(h *Head) { h.Ext = []Ext{part(5, true), part(0, true)} }, false},
	} {
		h := plain()
		c.change(&h)
		if Right(h) != c.want {
			t.Error(i)
		}
		if _, e := Bytes(h, nil); (e == api.OK) != c.want || e != api.OK && e != api.ErrArg {
			t.Error("Bytes", i, e)
		}
	}
}

func TestTells(t *testing.T) { // 9.1
	h := plain(Ext{Route, data(2, 0)}, part(1234, true), part(0, false))
	if h.Len() != 40+24+8+8 || h.Frag() != 1234 || !h.More() || plain().Len() != 40 || plain().Frag() != 0 || plain().More() {
		t.Error(h.Len(), h.Frag(), h.More())
	}
	if h := plain(part(8191, false)); h.Frag() != 8191 || h.More() {
		t.Error(h.Frag())
	}
	if h := plain(Ext{Part, []byte{0, 255, 255}}); h.Frag() != 0 || h.More() || h.Len() != 44 {
		t.Error("a short part")
	}
}

func TestBytes(t *testing.T) { // 9.2
	b, e := Bytes(plain(Ext{Hops, data(0, 5)}, part(0, true)), []byte{0xaa})
	want := []byte{0x6a, 0xbc, 0xde, 0xf1, 0, 17, 0, 9, 0, 0, 0, 0, 0, 0, 0, 1, 0, 0, 0, 0, 0, 0, 0, 2, 0, 0, 0, 0, 0, 0, 0, 3, 0, 0, 0, 0, 0, 0, 0, 4,
		44, 0, 5, 5, 5, 5, 5, 5, 17, 0x5a, 0, 1, 1, 2, 3, 4, 0xaa}
	if e != api.OK || !bytes.Equal(b, want) {
		t.Error(b, e)
	}
	if b, e := Bytes(plain(), make([]byte, 65535)); e != api.OK || len(b) != 65575 {
		t.Error("greatest", e)
	}
	if b, e := Bytes(plain(), make([]byte, 65536)); e != api.ErrBig || b != nil {
		t.Error("too great", e)
	}
	if b, e := Bytes(plain(part(0, false)), make([]byte, 65528)); e != api.ErrBig || b != nil {
		t.Error("too great with one that extends", e)
	}
	got := Pseudo(addr.V6(1, 2), addr.V6(3, 4), 0x13a, 0x0102030405)
	if !bytes.Equal(got, append(append([]byte{}, want[8:40]...), 2, 3, 4, 5, 0, 0, 0, 0x3a)) {
		t.Error(got)
	}
}

// raw is a header whose first kind is told, and bytes behind it.
func raw(first byte, behind ...byte) []byte {
	b, _ := Bytes(plain(), behind)
	b[6] = first
	return b
}

func ext(next byte, x Ext) []byte { return append([]byte{next}, x.Data...) }

func TestParse(t *testing.T) { // 9.3
	eight := []byte{}
	for range 7 {
		eight = append(eight, ext(60, Ext{60, data(0, 0)})...)
	}
	longer := raw(17, 1, 2, 3)
	longer[5] = 4
	long := func(next byte) []byte {
		return raw(60, append(bytes.Clone(eight), ext(next, Ext{60, data(0, 0)})...)...)
	}
	ninth := raw(60, slices.Concat(eight, ext(60, Ext{60, data(0, 0)}), ext(17, Ext{60, data(0, 0)}))...)
	short := raw(60, ext(17, Ext{60, data(1, 0)})...)
	for i, c := range []struct {
		b           []byte
		want, quote api.Errno
		left        int
	}{
		{nil, api.ErrShort, api.ErrShort, 0}, {raw(17)[:39], api.ErrShort, api.ErrShort, 0}, {append([]byte{0x45}, raw(17)[1:]...), api.ErrVersion, api.ErrVersion, 0},
		{longer, api.ErrLength, api.OK, 3}, {raw(17, 1, 2)[:41], api.ErrLength, api.OK, 1}, {append(raw(17, 1, 2), 9), api.OK, api.OK, 2},
		{raw(60, 1, 2, 3, 4, 5, 6, 7), api.ErrHeader, api.ErrHeader, 0}, {raw(60), api.ErrHeader, api.ErrHeader, 0}, {short[:55], api.ErrLength, api.ErrHeader, 0}, {short, api.OK, api.OK, 0},
		{raw(44, ext(17, Ext{44, data(9, 0)})[:8]...), api.OK, api.OK, 0},
		{raw(60, append(ext(0, Ext{60, data(0, 0)}), ext(17, Ext{0, data(0, 0)})...)...), api.ErrHeader, api.ErrHeader, 0},
		{raw(0, append(ext(0, Ext{0, data(0, 0)}), ext(17, Ext{0, data(0, 0)})...)...), api.ErrHeader, api.ErrHeader, 0},
		{long(17), api.OK, api.OK, 0}, {long(60), api.ErrHeader, api.ErrHeader, 0}, {long(43), api.ErrHeader, api.ErrHeader, 0}, {ninth, api.ErrHeader, api.ErrHeader, 0},
		{raw(44, ext(60, part(1, true))...), api.ErrHeader, api.ErrHeader, 0}, {raw(44, ext(6, part(1, true))...), api.OK, api.OK, 0},
		{raw(44, append(ext(60, part(0, true)), ext(17, Ext{60, data(0, 0)})...)...), api.OK, api.OK, 0},
		{raw(44, append(append(ext(44, part(0, true)), ext(43, part(9, true))...), ext(17, Ext{43, data(0, 0)})...)...), api.OK, api.OK, 0},
	} {
		h, p, e := Parse(c.b)
		g, q, f := Quote(c.b)
		if e != c.want || f != c.quote {
			t.Error(i, e, f)
		}
		if e != api.OK && (p != nil || !reflect.DeepEqual(h, Head{})) || f != api.OK && (q != nil || !reflect.DeepEqual(g, Head{})) {
			t.Error("not zero", i)
		}
		if e == api.OK && len(p) != c.left {
			t.Error("left", i, len(p))
		}
	}
	if _, q, _ := Quote(append(raw(17, 1, 2), 9)); len(q) != 3 {
		t.Error("Quote goes as far as there is something")
	}
}

func TestRoundTrip(t *testing.T) { // 9.4
	lists := [][]Ext{nil, {{Hops, data(0, 1)}}, {{Hops, data(3, 1)}, {Route, data(2, 7)}, {Options, data(255, 4)}}, {{Route, data(0, 1)}, part(77, true)}, {part(0, true), part(9, false), {Options, data(1, 1)}}, nine()[:8]}
	for i, l := range lists {
		for n := range 20 {
			h := plain(l...)
			h.Class, h.Label, h.Hop, h.Proto = n*12, n*50000, n*13, 100+n
			payload := bytes.Repeat([]byte{byte(n)}, n)
			b, e := Bytes(h, payload)
			g, p, f := Parse(append(b, 1, 2, 3)[:len(b)+n%3])
			if e != api.OK || f != api.OK || !bytes.Equal(p, payload) || !reflect.DeepEqual(g, h) {
				t.Fatal(i, n, e, f, g, h)
			}
			if again, _ := Bytes(g, p); !bytes.Equal(again, b) {
				t.Fatal("put again", i, n)
			}
			for j := range b {
				b[j] = 0xee
			}
			if n > 0 && p[0] != byte(n) || len(l) > 0 && !reflect.DeepEqual(g.Ext, l) {
				t.Fatal("shared", i, n)
			}
		}
	}
}

func TestCutAnywhere(t *testing.T) { // R1
	b, _ := Bytes(plain(Ext{Hops, data(1, 0)}, Ext{Route, data(2, 0)}, part(0, true)), make([]byte, 9))
	for n := range b {
		Parse(b[:n])
		Quote(b[:n])
		for v := range 256 {
			c := bytes.Clone(b)
			c[n] = byte(v)
			h, p, e := Parse(c)
			if e != api.OK {
				continue
			}
			if again, f := Bytes(h, p); f != api.OK || !bytes.Equal(again, c[:len(again)]) {
				t.Fatal(n, v, f)
			}
		}
	}
}
