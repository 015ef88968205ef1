package four

import (
	"bytes"
	"encoding/binary"
	"math"
	"reflect"
	"testing"

	"distributary/addr"
	"distributary/api"
	"distributary/sum"
)

func plain() Head {
	return Head{Tos: 1, Id: 0x1234, DF: true, Frag: 5, TTL: 64, Proto: 17, Src: addr.V4(0x0a000001), Dst: addr.V4(0x0a000002), Options: []byte{1, 2, 3, 4}}
}

func TestBytes(t *testing.T) { // 8.1
	b, e := Bytes(plain(), []byte{0xaa, 0xbb})
	want := []byte{0x46, 1, 0, 26, 0x12, 0x34, 0x40, 5, 64, 17, 0, 0, 10, 0, 0, 1, 10, 0, 0, 2, 1, 2, 3, 4}
	binary.BigEndian.PutUint16(want[10:], sum.Check(want))
	want = append(want, 0xaa, 0xbb)
	if e != api.OK || !bytes.Equal(b, want) {
		t.Fatal(b, want, e)
	}
	h := plain()
	h.DF, h.MF, h.Options = false, true, nil
	b, _ = Bytes(h, nil)
	if len(b) != 20 || b[0] != 0x45 || b[6] != 0x20 || b[7] != 5 || h.Len() != 20 || plain().Len() != 24 || Least != 20 {
		t.Fatal(b)
	}
	if b, e := Bytes(h, make([]byte, 65515)); e != api.OK || len(b) != 65535 {
		t.Fatal("greatest", e)
	}
	if b, e := Bytes(h, make([]byte, 65516)); e != api.ErrBig || b != nil {
		t.Fatal("too great", e)
	}
	h.Options = make([]byte, 40)
	if b, e := Bytes(h, make([]byte, 65476)); e != api.ErrBig || b != nil {
		t.Fatal("too great with options", e)
	}
	h.TTL = 256
	if b, e := Bytes(h, make([]byte, 70000)); e != api.ErrArg || b != nil {
		t.Fatal("ErrArg is first", e)
	}
}

func TestRight(t *testing.T) { // 8.1
	for i, c := range []struct {
		change func(h *Head)
		want   bool
	}{
		{func(h *Head) {}, true},
		{func(h *Head) { h.Tos = 255 }, true}, {func(h *Head) { h.Tos = 256 }, false}, {func(h *Head) { h.Tos = -1 }, false},
		{func(h *Head) { h.TTL = 255 }, true}, {func(h *Head) { h.TTL = 256 }, false}, {func(h *Head) { h.TTL = -1 }, false},
		{func(h *Head) { h.Proto = 255 }, true}, {func(h *Head) { h.Proto = 256 }, false}, {func(h *Head) { h.Proto = -1 }, false},
		{func(h *Head) { h.Id = 65535 }, true}, {func(h *Head) { h.Id = 65536 }, false}, {func(h *Head) { h.Id = -1 }, false},
		{func(h *Head) { h.Frag = 8191 }, true}, {func(h *Head) { h.Frag = 8192 }, false}, {func(h *Head) { h.Frag = math.MinInt }, false},
		{func(h *Head) { h.Src = addr.V6(0, 1) }, false}, {func(h *Head) { h.Dst = addr.V6(0, 1) }, false},
		{func(h *Head) { h.Src.Lo = 1 << 32 }, false}, {func(h *Head) { h.Dst.Hi = 1 }, false},
		{func(h *Head) { h.Options = make([]byte, 40) }, true}, {func(h *Head) { h.Options = make([]byte, 44) }, false},
		{func(h *Head) { h.Options = make([]byte, 3) }, false}, {func(h *Head) { h.Options = nil }, true},
	} {
		h := plain()
		c.change(&h)
		if Right(h) != c.want {
			t.Error(i)
		}
		if _, e := Bytes(h, nil); (e == api.OK) != c.want {
			t.Error("Bytes", i, e)
		}
	}
}

// fix puts the right check in.
func fix(b []byte) []byte {
	b = bytes.Clone(b)
	n := int(b[0]&15) * 4
	b[10], b[11] = 0, 0
	binary.BigEndian.PutUint16(b[10:], sum.Check(b[:n]))
	return b
}

func set(b []byte, at int, v byte) []byte {
	b = bytes.Clone(b)
	b[at] = v
	return b
}

func TestParse(t *testing.T) { // 8.2
	good, _ := Bytes(plain(), []byte{7, 8, 9})
	for i, c := range []struct {
		b    []byte
		want api.Errno
	}{
		{nil, api.ErrShort}, {good[:19], api.ErrShort}, {set(good[:19], 0, 0x60), api.ErrShort},
		{set(good, 0, 0x56), api.ErrVersion}, {set(good, 0, 0x36), api.ErrVersion},
		{set(good, 0, 0x44), api.ErrHeader}, {set(good, 0, 0x40), api.ErrHeader}, {set(good, 0, 0x47), api.ErrHeader}, {good[:23], api.ErrHeader},
		{fix(set(good, 6, 0xc0)), api.ErrHeader}, {set(set(good, 6, 0x80), 3, 1), api.ErrHeader},
		{fix(set(good, 3, 23)), api.ErrLength}, {fix(set(good, 3, 28)), api.ErrLength}, {set(good, 3, 28), api.ErrLength}, {good[:26], api.ErrLength},
		{set(good, 1, 2), api.ErrSum}, {set(good, 21, 0xff), api.ErrSum}, {set(good, 26, 0xff), api.OK},
		{fix(set(good, 3, 24)), api.OK}, {append(bytes.Clone(good), 1, 2), api.OK}, {good, api.OK},
	} {
		h, p, e := Parse(c.b)
		if e != c.want {
			t.Error(i, e, c.want)
		}
		if e != api.OK && (p != nil || !reflect.DeepEqual(h, Head{})) {
			t.Error("not zero", i)
		}
	}
	h, p, _ := Parse(append(bytes.Clone(good), 1, 2))
	if !reflect.DeepEqual(h, plain()) || !bytes.Equal(p, []byte{7, 8, 9}) {
		t.Error(h, p)
	}
}

func TestParseIsNewMemory(t *testing.T) { // R3
	good, _ := Bytes(plain(), []byte{7, 8, 9})
	h, p, _ := Parse(good)
	q, r, _ := Quote(good)
	for i := range good {
		good[i] = 0xee
	}
	if h.Options[0] != 1 || p[0] != 7 || q.Options[0] != 1 || r[0] != 7 {
		t.Error("shared")
	}
}

func TestQuote(t *testing.T) { // 8.3
	good, _ := Bytes(plain(), []byte{7, 8, 9})
	for i, c := range []struct {
		b    []byte
		want api.Errno
		left int
	}{
		{good[:19], api.ErrShort, 0}, {set(good, 0, 0x65), api.ErrVersion, 0}, {set(good, 0, 0x44), api.ErrHeader, 0}, {good[:23], api.ErrHeader, 0},
		{set(good, 6, 0xc0), api.OK, 3}, {set(good, 3, 200), api.OK, 3}, {set(good, 3, 0), api.OK, 3}, {set(good, 10, 0), api.OK, 3}, {good[:24], api.OK, 0}, {append(bytes.Clone(good), 5), api.OK, 4},
	} {
		h, p, e := Quote(c.b)
		if e != c.want || len(p) != c.left || e == api.OK && !reflect.DeepEqual(h, plain()) {
			t.Error(i, h, p, e)
		}
	}
}

func TestPseudo(t *testing.T) { // 8.3
	got := Pseudo(api.Addr{Hi: 9, Lo: 0x0102030405}, addr.V4(0x0a0b0c0d), 0x1ff, 0x12345)
	if !bytes.Equal(got, []byte{2, 3, 4, 5, 10, 11, 12, 13, 0, 255, 0x23, 0x45}) {
		t.Error(got)
	}
}

func TestRoundTrip(t *testing.T) { // 8.4
	x := uint64(1)
	for i := range 500 {
		x = x*6364136223846793005 + 1442695040888963407
		h := Head{Tos: int(x & 255), Id: int(x >> 8 & 65535), DF: x>>24&1 == 1, MF: x>>25&1 == 1, Frag: int(x >> 26 & 8191), TTL: int(x >> 40 & 255), Proto: int(x >> 48 & 255),
			Src: addr.V4(uint32(x >> 13)), Dst: addr.V4(uint32(x >> 29))}
		if n := i % 11 * 4; n > 0 {
			h.Options = bytes.Repeat([]byte{byte(x)}, n)
		}
		payload := bytes.Repeat([]byte{byte(i)}, i%50)
		b, e := Bytes(h, payload)
		g, p, f := Parse(b)
		if len(g.Options) == 0 {
			g.Options = nil
		}
		if e != api.OK || f != api.OK || !reflect.DeepEqual(g, h) || !bytes.Equal(p, payload) {
			t.Fatal(h, g, e, f)
		}
		again, _ := Bytes(g, p)
		if !bytes.Equal(again, b) {
			t.Fatal("put again", h)
		}
	}
}
