package tcp

import (
	"bytes"
	"encoding/binary"
	"reflect"
	"testing"

	"distributary/api"
	"distributary/sum"
)

func plain() Head {
	return Head{SPort: 0x1122, DPort: 0x3344, Seq: 0x55667788, Ack: 0x99aabbcc, Flags: 0xdd, Window: 0xeeff, Urgent: 0x0102, Options: []byte{3, 4, 5, 6}}
}

func TestBytes(t *testing.T) { // 10.1
	pseudo := []byte{9, 8, 7, 6}
	want := []byte{0x11, 0x22, 0x33, 0x44, 0x55, 0x66, 0x77, 0x88, 0x99, 0xaa, 0xbb, 0xcc, 0x60, 0xdd, 0xee, 0xff, 0, 0, 1, 2, 3, 4, 5, 6, 0xab, 0xcd, 0xef}
	binary.BigEndian.PutUint16(want[16:], sum.Check(pseudo, want))
	b, e := Bytes(plain(), []byte{0xab, 0xcd, 0xef}, pseudo)
	if e != api.OK || !bytes.Equal(b, want) {
		t.Fatal(b, want, e)
	}
	if b, _ := Bytes(Head{}, nil, nil); len(b) != 20 || b[12] != 0x50 || Least != 20 {
		t.Fatal(b)
	}
}

func TestRight(t *testing.T) { // 10.1
	for i, c := range []struct {
		change func(h *Head)
		want   bool
	}{
		{func(h *Head) {}, true}, {func(h *Head) { h.SPort = 65535 }, true}, {func(h *Head) { h.SPort = 65536 }, false}, {func(h *Head) { h.SPort = -1 }, false},
		{func(h *Head) { h.DPort = 65535 }, true}, {func(h *Head) { h.DPort = 65536 }, false}, {func(h *Head) { h.DPort = -1 }, false},
		{func(h *Head) { h.Window = 65535 }, true}, {func(h *Head) { h.Window = 65536 }, false}, {func(h *Head) { h.Window = -1 }, false},
		{func(h *Head) { h.Urgent = 65535 }, true}, {func(h *Head) { h.Urgent = 65536 }, false}, {func(h *Head) { h.Urgent = -1 }, false},
		{func(h *Head) { h.Flags = 255 }, true}, {func(h *Head) { h.Flags = 256 }, false}, {func(h *Head) { h.Flags = -1 }, false},
		{func(h *Head) { h.Options = make([]byte, 40) }, true}, {func(h *Head) { h.Options = make([]byte, 44) }, false}, {func(h *Head) { h.Options = make([]byte, 5) }, false},
	} {
		h := plain()
		c.change(&h)
		b, e := Bytes(h, []byte{1}, nil)
		if Right(h) != c.want || (e == api.OK) != c.want || !c.want && (e != api.ErrArg || b != nil) {
			t.Error(i, e)
		}
	}
}

// fix puts the right check in.
func fix(b, pseudo []byte) []byte {
	b = bytes.Clone(b)
	b[16], b[17] = 0, 0
	binary.BigEndian.PutUint16(b[16:], sum.Check(pseudo, b))
	return b
}

func set(b []byte, at int, v byte) []byte {
	b = bytes.Clone(b)
	b[at] = v
	return b
}

func TestParse(t *testing.T) { // 10.1
	pseudo := []byte{1, 2, 3, 4}
	good, _ := Bytes(plain(), []byte{1, 2, 3}, pseudo)
	for i, c := range []struct {
		b    []byte
		want api.Errno
	}{
		{nil, api.ErrShort}, {good[:19], api.ErrShort}, {set(good, 12, 0x40), api.ErrHeader}, {fix(set(good, 12, 0x40), pseudo), api.ErrHeader},
		{fix(set(good, 12, 0x70), pseudo), api.ErrHeader}, {fix(set(good, 12, 0x61), pseudo), api.ErrHeader}, {fix(set(good, 12, 0x68), pseudo), api.ErrHeader},
		{set(good, 0, 0x12), api.ErrSum}, {set(good, 26, 7), api.ErrSum}, {good[:24], api.ErrSum}, {fix(set(good, 12, 0x50), pseudo), api.OK}, {good, api.OK},
	} {
		h, p, e := Parse(c.b, pseudo)
		if e != c.want || e != api.OK && (p != nil || !reflect.DeepEqual(h, Head{})) {
			t.Error(i, e)
		}
	}
	if _, _, e := Parse(good, []byte{1, 2, 3, 5}); e != api.ErrSum {
		t.Error("what goes ahead")
	}
}

func TestFlags(t *testing.T) { // 10.2
	if Fin != 1 || Syn != 2 || Rst != 4 || Psh != 8 || Ack != 16 || Urg != 32 {
		t.Fatal("names")
	}
	for f := range 256 {
		h := Head{Flags: f}
		want := f&Syn != 0 && f&Ack == 0 && f&Rst == 0 && f&Fin == 0
		if h.Opens() != want {
			t.Error("Opens", f)
		}
		for g := range 256 {
			if h.Has(g) != (f|g == f) {
				t.Error("Has", f, g)
			}
		}
	}
	if !(Head{Flags: Syn}).Opens() || (Head{Flags: Syn | Ack}).Opens() {
		t.Error("example")
	}
}

func TestRoundTrip(t *testing.T) { // 10.3
	x := uint64(11)
	for i := range 500 {
		x = x*6364136223846793005 + 1442695040888963407
		h := Head{SPort: int(x & 65535), DPort: int(x >> 16 & 65535), Seq: uint32(x >> 9), Ack: uint32(x >> 21), Flags: int(x >> 50 & 255), Window: int(x >> 33 & 65535), Urgent: int(x >> 41 & 65535),
			Options: bytes.Repeat([]byte{byte(x)}, i%11*4)}
		payload, pseudo := bytes.Repeat([]byte{byte(i)}, i%60), bytes.Repeat([]byte{byte(x >> 3)}, i%20*2)
		b, e := Bytes(h, payload, pseudo)
		g, p, f := Parse(b, pseudo)
		if e != api.OK || f != api.OK || !bytes.Equal(p, payload) || !bytes.Equal(g.Options, h.Options) {
			t.Fatal(i, e, f)
		}
		for j := range b {
			b[j] = 0xee
		}
		if len(p) > 0 && p[0] != byte(i) || !bytes.Equal(g.Options, h.Options) {
			t.Fatal("shared")
		}
		g.Options = h.Options
		if !reflect.DeepEqual(g, h) {
			t.Fatal(g, h)
		}
	}
}
