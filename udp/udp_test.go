package udp

import (
	"bytes"
	"encoding/binary"
	"testing"

	"distributary/api"
	"distributary/sum"
)

func TestBytes(t *testing.T) { // 11.1
	if b, e := Bytes(Head{SPort: 1, DPort: 2, Bare: true}, nil, []byte{5, 6}); e != api.OK || !bytes.Equal(b, []byte{0, 1, 0, 2, 0, 8, 0, 0}) {
		t.Fatal(b, e)
	}
	pseudo := []byte{1, 2, 3, 4}
	want := []byte{0x11, 0x22, 0x33, 0x44, 0, 11, 0, 0, 7, 8, 9}
	binary.BigEndian.PutUint16(want[6:], sum.Check(pseudo, want))
	if b, e := Bytes(Head{SPort: 0x1122, DPort: 0x3344}, []byte{7, 8, 9}, pseudo); e != api.OK || !bytes.Equal(b, want) {
		t.Fatal(b, e)
	}
	// The words of ports, length and payload come to ffff: the check would be 0.
	if b, e := Bytes(Head{SPort: 0xffff - 10, DPort: 0}, []byte{0, 0}, nil); e != api.OK || b[6] != 0xff || b[7] != 0xff {
		t.Fatal("a check that is 0", b, e)
	}
	if b, e := Bytes(Head{}, make([]byte, 65527), nil); e != api.OK || len(b) != 65535 || Least != 8 {
		t.Fatal("greatest", e)
	}
	if b, e := Bytes(Head{}, make([]byte, 65528), nil); e != api.ErrBig || b != nil {
		t.Fatal("too great", e)
	}
	if b, e := Bytes(Head{SPort: -1}, make([]byte, 65528), nil); e != api.ErrArg || b != nil {
		t.Fatal("ErrArg is first", e)
	}
}

func TestRight(t *testing.T) { // 11.1
	for _, c := range []struct {
		h    Head
		want bool
	}{{Head{}, true}, {Head{65535, 65535, true}, true}, {Head{65536, 0, false}, false}, {Head{0, 65536, false}, false}, {Head{-1, 0, false}, false}, {Head{0, -1, true}, false}} {
		_, e := Bytes(c.h, nil, nil)
		if Right(c.h) != c.want || (e == api.OK) != c.want {
			t.Error(c.h)
		}
	}
}

func TestParse(t *testing.T) { // 11.2
	pseudo := []byte{1, 2}
	good, _ := Bytes(Head{SPort: 5, DPort: 6}, []byte{1, 2, 3}, pseudo)
	bare, _ := Bytes(Head{SPort: 5, DPort: 6, Bare: true}, []byte{1, 2, 3}, pseudo)
	wrong := bytes.Clone(good)
	wrong[9] ^= 1
	for i, c := range []struct {
		b    []byte
		bare bool
		want api.Errno
	}{
		{nil, true, api.ErrShort}, {good[:7], true, api.ErrShort}, {good[:10], true, api.ErrLength}, {append(bytes.Clone(good), 0), false, api.ErrLength}, {append(bytes.Clone(bare), 0), false, api.ErrLength},
		{bare, false, api.ErrSum}, {wrong, true, api.ErrSum}, {wrong, false, api.ErrSum}, {bare, true, api.OK}, {good, true, api.OK}, {good, false, api.OK},
	} {
		h, p, e := Parse(c.b, pseudo, c.bare)
		if e != c.want || e != api.OK && (p != nil || h != Head{}) {
			t.Error(i, e)
		}
	}
	if _, _, e := Parse(good, nil, true); e != api.ErrSum {
		t.Error("what goes ahead")
	}
}

func TestRoundTrip(t *testing.T) { // 11.3
	x := uint64(2)
	for i := range 600 {
		x = x*6364136223846793005 + 1442695040888963407
		h := Head{SPort: int(x & 65535), DPort: int(x >> 16 & 65535), Bare: i%3 == 0}
		payload, pseudo := bytes.Repeat([]byte{byte(x >> 33)}, i%70), bytes.Repeat([]byte{byte(x >> 41)}, i%20*2)
		b, _ := Bytes(h, payload, pseudo)
		g, p, e := Parse(b, pseudo, i%3 == 0 || i%2 == 0)
		if e != api.OK || g != h || !bytes.Equal(p, payload) {
			t.Fatal(i, g, e)
		}
		if len(p) > 0 {
			b[8]++
			if p[0] != payload[0] {
				t.Fatal("shared")
			}
		}
	}
}
