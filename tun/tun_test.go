package tun

import (
	"bytes"
	"testing"

	"distributary/addr"
	"distributary/api"
	"distributary/four"
	"distributary/six"
	"distributary/sum"
)

func pack4(ttl int, change func(h *four.Head), payload []byte) []byte {
	h := four.Head{Tos: 3, Id: 77, TTL: ttl, Proto: 200, Src: addr.V4(5), Dst: addr.V4(6), Options: []byte{1, 1, 1, 0}}
	if change != nil {
		change(&h)
	}
	b, _ := four.Bytes(h, payload)
	return b
}

func pack6(hop int, change func(h *six.Head), payload []byte) []byte {
	h := six.Head{Class: 3, Label: 77, Hop: hop, Proto: 200, Src: addr.V6(5, 5), Dst: addr.V6(6, 6), Ext: []six.Ext{{Kind: six.Options, Data: make([]byte, 7)}}}
	if change != nil {
		change(&h)
	}
	b, _ := six.Bytes(h, payload)
	return b
}

func TestLess(t *testing.T) { // 14.1, 14.4
	for ttl := range 256 {
		for n := range 5 {
			a, b := pack4(ttl, nil, make([]byte, n)), pack6(ttl, nil, make([]byte, n))
			was := bytes.Clone(a)
			x, e := Less(append(a, 1, 2, 3))
			y, f := Less(append(b, 1, 2, 3))
			if ttl < 2 {
				if e != api.ErrTTL || f != api.ErrTTL || x != nil || y != nil {
					t.Fatal(ttl, e, f)
				}
				continue
			}
			if e != api.OK || !bytes.Equal(x, pack4(ttl-1, nil, make([]byte, n))) || f != api.OK || !bytes.Equal(y, pack6(ttl-1, nil, make([]byte, n))) {
				t.Fatal(ttl, n, e, f)
			}
			if !bytes.Equal(a, was) {
				t.Fatal("changed")
			}
		}
	}
}

func TestLessTurnsTheCheck(t *testing.T) { // 14.1: the check is turned, not made anew
	for id := range 65536 {
		b := pack4(9, func(h *four.Head) { h.Id = id }, nil)
		out, _ := Less(b)
		want := sum.Turn(uint16(b[10])<<8|uint16(b[11]), 9<<8|200, 8<<8|200)
		if uint16(out[10])<<8|uint16(out[11]) != want {
			t.Fatal(id)
		}
	}
}

func TestLessErrors(t *testing.T) { // 14.1
	bad := pack4(1, nil, nil)
	bad[10] ^= 1
	for i, c := range []struct {
		b    []byte
		want api.Errno
	}{{nil, api.ErrShort}, {[]byte{0x50}, api.ErrVersion}, {[]byte{0x45}, api.ErrShort}, {[]byte{0x60}, api.ErrShort}, {bad, api.ErrSum}, {pack6(1, nil, []byte{1})[:48], api.ErrLength}} {
		if b, e := Less(c.b); e != c.want || b != nil {
			t.Error(i, e)
		}
	}
}

func TestWrapOpen(t *testing.T) { // 14.2, 14.3, 14.4
	for _, inner := range [][]byte{pack4(9, nil, make([]byte, 30)), pack6(9, nil, make([]byte, 31)), {0x4f}, {0x60, 1, 2}} {
		proto := 4
		if inner[0]>>4 == 6 {
			proto = 41
		}
		for _, v6 := range []bool{false, true} {
			src, dst := addr.V4(10), addr.V4(11)
			if v6 {
				src, dst = addr.V6(1, 10), addr.V6(1, 11)
			}
			b, e := Wrap(src, dst, inner)
			if e != api.OK || len(b) != Over(v6)+len(inner) {
				t.Fatal(e, len(b))
			}
			if v6 {
				want, _ := six.Bytes(six.Head{Hop: 64, Src: src, Dst: dst, Proto: proto}, inner)
				if !bytes.Equal(b, want) {
					t.Fatal("header of version 6")
				}
			} else if want, _ := four.Bytes(four.Head{DF: true, TTL: 64, Src: src, Dst: dst, Proto: proto}, inner); !bytes.Equal(b, want) {
				t.Fatal("header of version 4")
			}
			got, s, d, e := Open(append(b, 9, 9))
			if e != api.OK || s != src || d != dst || !bytes.Equal(got, inner) {
				t.Fatal(got, s, d, e)
			}
		}
	}
	if Over(true) != 40 || Over(false) != 20 || Hop != 64 {
		t.Fatal("Over")
	}
}

func TestWrapErrors(t *testing.T) { // 14.2
	good := pack4(9, nil, nil)
	for i, c := range []struct {
		src, dst api.Addr
		b        []byte
		want     api.Errno
	}{
		{addr.V4(1), addr.V6(0, 1), nil, api.ErrShort}, {addr.V4(1), addr.V6(0, 1), []byte{0x50}, api.ErrVersion}, {addr.V4(1), addr.V6(0, 1), good, api.ErrAddr}, {addr.V6(0, 1), addr.V4(1), good, api.ErrAddr},
		{api.Addr{Lo: 1 << 32}, addr.V4(1), good, api.ErrAddr}, {addr.V4(1), api.Addr{Hi: 1}, good, api.ErrAddr}, {addr.V4(1), addr.V4(2), append([]byte{0x45}, make([]byte, 65515)...), api.ErrBig},
		{addr.V6(1, 1), addr.V6(1, 2), append([]byte{0x45}, make([]byte, 65535)...), api.ErrBig}, {addr.V4(1), addr.V4(2), append([]byte{0x45}, make([]byte, 65514)...), api.OK},
	} {
		if b, e := Wrap(c.src, c.dst, c.b); e != c.want || (b == nil) == (e == api.OK) {
			t.Error(i, e)
		}
	}
}

func TestOpenErrors(t *testing.T) { // 14.3
	inner := pack4(9, nil, nil)
	in4 := func(change func(h *four.Head), b []byte) []byte {
		return pack4(0, func(h *four.Head) { h.Proto = 4; change(h) }, b)
	}
	in6 := func(proto int, at int, more byte, b []byte) []byte {
		return pack6(0, func(h *six.Head) {
			h.Proto, h.Ext = proto, []six.Ext{{Kind: six.Part, Data: []byte{0, 0, byte(at<<3) | more, 0, 0, 0, 0}}}
		}, b)
	}
	for i, c := range []struct {
		b    []byte
		want api.Errno
	}{
		{nil, api.ErrShort}, {[]byte{0x60}, api.ErrShort}, {[]byte{0x50}, api.ErrShort}, {append([]byte{0x50}, make([]byte, 40)...), api.ErrVersion},
		{in4(func(h *four.Head) { h.Frag = 1 }, inner), api.ErrFrag}, {in4(func(h *four.Head) { h.MF = true }, inner), api.ErrFrag}, {in4(func(h *four.Head) { h.Proto, h.Frag = 6, 1 }, inner), api.ErrFrag},
		{in4(func(h *four.Head) { h.Proto = 6 }, inner), api.ErrProto}, {in4(func(h *four.Head) { h.Proto = 6 }, nil), api.ErrProto}, {in4(func(h *four.Head) { h.Proto = 41 }, inner), api.ErrProto},
		{in4(func(h *four.Head) {}, nil), api.ErrShort}, {in4(func(h *four.Head) {}, []byte{0x5f}), api.ErrVersion}, {in4(func(h *four.Head) {}, inner), api.OK},
		{in6(4, 1, 0, inner), api.ErrFrag}, {in6(4, 0, 1, inner), api.OK}, {in6(4, 0, 0, inner), api.OK}, {in6(41, 0, 0, inner), api.ErrProto}, {in6(5, 0, 0, inner), api.ErrProto},
	} {
		b, s, d, e := Open(c.b)
		if e != c.want || e != api.OK && (b != nil || s != (api.Addr{}) || d != (api.Addr{})) {
			t.Error(i, e)
		}
	}
}
