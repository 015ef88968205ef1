package icmp

import (
	"bytes"
	"encoding/binary"
	"reflect"
	"slices"
	"testing"

	"distributary/addr"
	"distributary/api"
	"distributary/four"
	"distributary/six"
	"distributary/sum"
)

func TestBytes(t *testing.T) { // 12.1
	pseudo := []byte{1, 2}
	want := []byte{3, 4, 0, 0, 0x11, 0x22, 0x33, 0x44, 9, 8, 7}
	binary.BigEndian.PutUint16(want[2:], sum.Check(pseudo, want))
	b, e := Bytes(Msg{3, 4, 0x11223344, []byte{9, 8, 7}}, pseudo)
	if e != api.OK || !bytes.Equal(b, want) || Least != 8 {
		t.Fatal(b, e)
	}
	for _, c := range []struct {
		m    Msg
		want bool
	}{{Msg{}, true}, {Msg{Type: 255, Code: 255}, true}, {Msg{Type: 256}, false}, {Msg{Type: -1}, false}, {Msg{Code: 256}, false}, {Msg{Code: -1}, false}} {
		b, e := Bytes(c.m, nil)
		if Right(c.m) != c.want || (e == api.OK) != c.want || !c.want && (e != api.ErrArg || b != nil) {
			t.Error(c.m)
		}
	}
}

func TestParse(t *testing.T) { // 12.1, 12.3
	x := uint64(4)
	for i := range 300 {
		x = x*6364136223846793005 + 1442695040888963407
		m := Msg{Type: int(x >> 20 & 255), Code: int(x >> 30 & 255), Word: uint32(x >> 32), Data: bytes.Repeat([]byte{byte(x >> 7)}, i%40)}
		pseudo := bytes.Repeat([]byte{byte(x >> 11)}, i%9*2)
		b, _ := Bytes(m, pseudo)
		g, e := Parse(b, pseudo)
		if e != api.OK || g.Type != m.Type || g.Code != m.Code || g.Word != m.Word || !bytes.Equal(g.Data, m.Data) {
			t.Fatal(i, g, e)
		}
		at := i % len(b)
		b[at] ^= 0x10
		if !bytes.Equal(g.Data, m.Data) {
			t.Fatal("shared")
		}
		if g, e := Parse(b, pseudo); e != api.ErrSum || !reflect.DeepEqual(g, Msg{}) {
			t.Fatal("a wrong check", i, e)
		}
		if g, e := Parse(b[:min(i%8, len(b))], pseudo); e != api.ErrShort || !reflect.DeepEqual(g, Msg{}) {
			t.Fatal("short", e)
		}
	}
}

func TestError(t *testing.T) { // 12.2
	for kind := -3; kind < 300; kind++ {
		if Error(false, kind) != slices.Contains([]int{3, 4, 5, 11, 12}, kind) || Error(true, kind) != slices.Contains([]int{1, 2, 3, 4}, kind) {
			t.Error(kind)
		}
	}
}

func TestQuoted4(t *testing.T) { // 12.2
	h := four.Head{TTL: 1, Proto: api.Udp, Src: addr.V4(7), Dst: addr.V4(8), Options: []byte{1, 1, 1, 1}}
	part, icmp, first := h, h, h
	part.Frag, icmp.Proto, first.MF = 1, api.Icmp4, true
	behind := []byte{0x11, 0x22, 0x33, 0x44, 5}
	make4 := func(h four.Head, n int) []byte {
		b, _ := four.Bytes(h, behind[:n])
		return b
	}
	late := icmp
	late.Frag = 3
	bad := make4(h, 5)
	bad[10] ^= 1
	want := api.Tuple{Proto: api.Udp, Src: addr.V4(7), Dst: addr.V4(8), SPort: 0x1122, DPort: 0x3344}
	for i, c := range []struct {
		kind int
		b    []byte
		e    api.Errno
	}{
		{3, make4(h, 5), api.OK}, {11, make4(h, 4), api.OK}, {12, make4(first, 4), api.OK}, {5, bad, api.OK}, {4, make4(h, 5)[:28], api.OK},
		{8, make4(h, 5), api.ErrIcmp}, {1, nil, api.ErrIcmp}, {3, nil, api.ErrShort}, {3, make4(h, 5)[:23], api.ErrHeader}, {3, make4(part, 5), api.ErrFrag}, {3, make4(late, 1), api.ErrFrag},
		{3, make4(icmp, 1), api.ErrProto}, {3, make4(h, 3), api.ErrShort}, {3, append([]byte{0x60}, make([]byte, 60)...), api.ErrVersion},
	} {
		got, e := Quoted(false, Msg{Type: c.kind, Data: c.b})
		if e != c.e || e == api.OK && got != want || e != api.OK && got != (api.Tuple{}) {
			t.Error(i, got, e)
		}
	}
}

func TestQuoted6(t *testing.T) { // 12.2
	h := six.Head{Hop: 1, Proto: api.Tcp, Src: addr.V6(1, 7), Dst: addr.V6(1, 8)}
	part, none := h, h
	part.Ext, none.Proto = []six.Ext{{Kind: six.Part, Data: []byte{0, 0, 8, 0, 0, 0, 0}}}, 59
	behind := []byte{0x11, 0x22, 0x33, 0x44, 5}
	make6 := func(h six.Head, n int) []byte {
		b, _ := six.Bytes(h, behind[:n])
		return b
	}
	want := api.Tuple{Proto: api.Tcp, Src: addr.V6(1, 7), Dst: addr.V6(1, 8), SPort: 0x1122, DPort: 0x3344}
	for i, c := range []struct {
		kind int
		b    []byte
		e    api.Errno
	}{
		{1, make6(h, 5), api.OK}, {4, make6(h, 5)[:44], api.OK}, {5, make6(h, 5), api.ErrIcmp}, {128, make6(h, 5), api.ErrIcmp}, {2, make6(h, 5)[:39], api.ErrShort},
		{2, make6(part, 5), api.ErrFrag}, {2, make6(none, 1), api.ErrProto}, {2, make6(h, 3), api.ErrShort}, {2, append([]byte{0x45}, make([]byte, 60)...), api.ErrVersion},
	} {
		got, e := Quoted(true, Msg{Type: c.kind, Data: c.b})
		if e != c.e || e == api.OK && got != want || e != api.OK && got != (api.Tuple{}) {
			t.Error(i, got, e)
		}
	}
}

func TestBack(t *testing.T) { // 12.2, 12.3
	x := api.Tuple{Proto: 6, Src: addr.V4(1), Dst: addr.V6(2, 3), SPort: 4, DPort: 5}
	if b := Back(x); b != (api.Tuple{Proto: 6, Src: addr.V6(2, 3), Dst: addr.V4(1), SPort: 5, DPort: 4}) || Back(b) != x {
		t.Error(b)
	}
}
