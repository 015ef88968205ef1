package addr

import (
	"bytes"
	"math"
	"net/netip"
	"strings"
	"testing"

	"distributary/api"
)

func some() []api.Addr {
	l := []api.Addr{V4(0), V4(1), V4(0x0a000001), V4(1<<32 - 1), V6(0, 0), V6(0, 1), V6(1<<63, 0), V6(1<<64-1, 1<<64-1),
		V6(0x20010db800000000, 0), V6(0x20010db800010000, 1), V6(0x1000000000000, 0x1000000000000), V6(0, 0xffff0a000001)}
	x := uint64(9)
	for i := range 300 {
		x = x*6364136223846793005 + 1442695040888963407
		hi, lo := x, x*x
		for j := range 4 { // many words 0
			if x>>(8*j+i%7)&1 != 0 {
				hi &^= 0xffff << (16 * j)
			}
			if x>>(8*j+32+i%5)&1 != 0 {
				lo &^= 0xffff << (16 * j)
			}
		}
		l = append(l, V6(hi, lo), V4(uint32(x>>30)))
	}
	return l
}

func lib(a api.Addr) netip.Addr {
	n, _ := netip.AddrFromSlice(Bytes(a))
	return n
}

func TestBasics(t *testing.T) { // 5.1
	if V4(7) != (api.Addr{Lo: 7}) || V6(7, 8) != (api.Addr{V6: true, Hi: 7, Lo: 8}) {
		t.Fatal("V4, V6")
	}
	for _, c := range []struct {
		a    api.Addr
		want bool
	}{{api.Addr{}, true}, {api.Addr{Lo: 1 << 32}, false}, {api.Addr{Lo: 1<<32 - 1}, true}, {api.Addr{Hi: 1}, false}, {V6(1<<64-1, 1<<64-1), true}} {
		if Right(c.a) != c.want {
			t.Error(c.a)
		}
	}
	if Bits(V4(1)) != 32 || Bits(V6(0, 0)) != 128 {
		t.Error("Bits")
	}
	if !bytes.Equal(Bytes(V4(0x01020304)), []byte{1, 2, 3, 4}) || !bytes.Equal(Bytes(api.Addr{Hi: 9, Lo: 0xff01020304}), []byte{1, 2, 3, 4}) {
		t.Error("Bytes of version 4")
	}
	if !bytes.Equal(Bytes(V6(0x0102030405060708, 0x090a0b0c0d0e0f10)), []byte{1, 2, 3, 4, 5, 6, 7, 8, 9, 10, 11, 12, 13, 14, 15, 16}) {
		t.Error("Bytes of version 6")
	}
	for n := range 20 {
		b := bytes.Repeat([]byte{7}, n)
		a, e := Of(b)
		if n == 4 || n == 16 {
			if e != api.OK || a.V6 != (n == 16) || !bytes.Equal(Bytes(a), b) {
				t.Error(n, a, e)
			}
		} else if e != api.ErrLength || a != (api.Addr{}) {
			t.Error(n, a, e)
		}
	}
}

func TestTexts(t *testing.T) { // 5.2
	for _, a := range some() {
		s := Text(a)
		if a.V6 && a.Hi == 0 && a.Lo>>32 == 0xffff {
			if s != "::ffff:a00:1" { // here the library mixes both kinds
				t.Error(s)
			}
		} else if s != lib(a).String() {
			t.Error(s, lib(a))
		}
		if b, e := Parse(s); b != a || e != api.OK {
			t.Error(s, b, e)
		}
		if b, e := Of(Bytes(a)); b != a || e != api.OK {
			t.Error(s, b, e)
		}
	}
	if Text(api.Addr{Hi: 5, Lo: 0x7700000001}) != "0.0.0.1" {
		t.Error("of version 4 the lowest 32 bits")
	}
}

func TestParse(t *testing.T) { // 5.2
	for _, s := range []string{"::", "::1", "1::", "10.0.0.1", "0.0.0.0", "255.255.255.255", "1:2:3:4:5:6:7:8", "1:0:3:4:5:6:7:8", "1::4:0:0:7:8",
		"0:1::", "::8:0:0:0", "a:b:c:d:e:f::", "0:0:1::", "2001:db8::1:0:0:1"} {
		if a, e := Parse(s); e != api.OK || Text(a) != s {
			t.Error(s, a, e)
		}
	}
	for _, s := range []string{"", ":", ":::", "0:0::1", "010.0.0.1", "1.2.3", "1.2.3.4.5", "1.2.3.256", "1.2.3.", "+1.2.3.4", "1.2.3.-4", " 1.2.3.4", "1.2.3.4 ",
		"::1::", "1::2::3", "::0", "0::", "::01", "::A", "::1%a", "1:2:3:4:5:6:7", "1:2:3:4:5:6:7:8:9", "1:2:3:4:5:6:7::8", "1::2:3:4:5:6:7:8", "::10000", "::1.2.3.4",
		"::ffff:10.0.0.1", "1::2:0:0:0:0", "0:0:0:0:0:0:0:0", "1_0.0.0.1", "0x1.0.0.1", "::0x1", "::+1", "::1_0", "1:2", "::1/8", "1:2:3:4:5:6:7:", ":1:2:3:4:5:6:7", "1.2.3.4:", strings.Repeat(":", 5000), strings.Repeat("1.", 5000)} {
		if a, e := Parse(s); e != api.ErrAddr || a != (api.Addr{}) {
			t.Error(s, a, e)
		}
	}
}

func TestCompare(t *testing.T) { // 5.3
	l := some()
	for _, a := range l {
		for _, b := range l {
			if Compare(a, b) != lib(a).Compare(lib(b)) {
				t.Fatal(a, b)
			}
		}
	}
	if Compare(V4(1<<32-1), V6(0, 0)) != -1 || Compare(V6(0, 0), V4(9)) != 1 || Compare(V6(2, 0), V6(1, 5)) != 1 {
		t.Fatal("versions")
	}
}

func TestBit(t *testing.T) { // 5.3
	for _, a := range some() {
		b := Bytes(a)
		for i := range Bits(a) {
			if Bit(a, i) != int(b[i/8]>>(7-i%8)&1) {
				t.Fatal(a, i)
			}
		}
		for _, i := range []int{-1, math.MinInt, Bits(a), Bits(a) + 1, math.MaxInt} {
			if Bit(a, i) != 0 {
				t.Fatal(a, i)
			}
		}
	}
	if Bit(api.Addr{Hi: 1<<64 - 1, Lo: 1<<64 - 1}, 32) != 0 {
		t.Fatal("beyond version 4")
	}
}
