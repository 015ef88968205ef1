package nat

import (
	"bytes"
	"testing"

	"distributary/addr"
	"distributary/api"
	"distributary/four"
	"distributary/pkt"
	"distributary/six"
	"distributary/sum"
	"distributary/udp"
)

func flow(v6 bool, proto int) api.Tuple {
	if v6 {
		return api.Tuple{Proto: proto, Src: addr.V6(1, 2), Dst: addr.V6(3, 4), SPort: 1000, DPort: 80}
	}
	return api.Tuple{Proto: proto, Src: addr.V4(0x0a000001), Dst: addr.V4(0x0a000002), SPort: 1000, DPort: 80}
}

func made(x api.Tuple, payload []byte) []byte {
	b, _ := pkt.Segment(x, 9, 16, payload)
	if x.Proto == api.Udp {
		b, _ = pkt.Datagram(x, 9, payload)
	}
	return b
}

func TestTurn(t *testing.T) { // 15.1, 15.2, 15.3
	x := uint64(3)
	for i := range 2000 {
		x = x*6364136223846793005 + 1442695040888963407
		v6, proto, s := i%2 == 0, []int{api.Tcp, api.Udp}[i/2%2], Side(i/4%2)
		to, port := addr.V4(uint32(x>>32)), int(x>>16&65535)
		if v6 {
			to = addr.V6(x, x*7)
		}
		f := flow(v6, proto)
		b := made(f, bytes.Repeat([]byte{byte(x >> 40)}, i%9))
		was := bytes.Clone(b)
		out, e := Turn(append(b, 5, 5), s, to, port)
		want := f
		if s == Src {
			want.Src, want.SPort = to, port
		} else {
			want.Dst, want.DPort = to, port
		}
		p, g := pkt.Parse(out)
		if e != api.OK || g != api.OK || p.Flow != want || len(out) != len(was) || !bytes.Equal(b, was) {
			t.Fatal(i, e, g, p)
		}
		if w, e := Whole(b, s, to, port); e != api.OK || w != want {
			t.Fatal("Whole", w, e)
		}
		old, oldPort := f.Src, f.SPort
		if s == Dst {
			old, oldPort = f.Dst, f.DPort
		}
		back, e := Turn(out, s, old, oldPort)
		if q, g := pkt.Parse(back); e != api.OK || g != api.OK || q.Flow != f || !same(was, back, v6, proto) || !same(was, out, v6, proto, s) {
			t.Fatal("back", i, e, g)
		}
	}
}

// same tells whether packets are alike but for checks, and the addresses and ports of sides.
func same(a, b []byte, v6 bool, proto int, sides ...Side) bool {
	a, b = bytes.Clone(a), bytes.Clone(b)
	n := Least(v6)
	for _, x := range [][]byte{a, b} {
		if !v6 {
			clear(x[10:12])
		}
		if proto == api.Tcp {
			clear(x[n+16 : n+18])
		} else {
			clear(x[n+6 : n+8])
		}
		for _, s := range sides {
			if v6 {
				clear(x[8+16*int(s) : 24+16*int(s)])
			} else {
				clear(x[12+4*int(s) : 16+4*int(s)])
			}
			clear(x[n+2*int(s) : n+2+2*int(s)])
		}
	}
	return bytes.Equal(a, b)
}

func TestTurnErrors(t *testing.T) { // 15.1, 15.2
	good := made(flow(false, api.Udp), nil)
	message, _ := pkt.Unreach(addr.V4(9), 9, good, 99)
	for i, c := range []struct {
		b    []byte
		s    Side
		to   api.Addr
		port int
		want api.Errno
	}{
		{nil, 9, addr.V4(1), -1, api.ErrShort}, {good[:27], 9, addr.V4(1), -1, api.ErrLength}, {good, 2, addr.V6(0, 1), 1, api.ErrArg}, {good, -1, addr.V4(1), 1, api.ErrArg}, {good, Src, addr.V4(1), -1, api.ErrArg},
		{good, Dst, addr.V4(1), 65536, api.ErrArg}, {message, Dst, addr.V6(0, 1), 1, api.ErrArg}, {good, Dst, addr.V6(0, 1), 1, api.ErrAddr}, {good, Src, api.Addr{Lo: 1 << 32}, 1, api.ErrAddr},
		{good, Src, addr.V4(1), 65535, api.OK}, {good, Dst, addr.V4(1), 0, api.OK}, {made(flow(true, api.Tcp), nil), Dst, addr.V4(1), 0, api.ErrAddr},
	} {
		if b, e := Turn(c.b, c.s, c.to, c.port); e != c.want || (b == nil) == (e == api.OK) {
			t.Error(i, e)
		}
	}
	if w, e := Whole(good[:27], Src, addr.V4(1), 1); e != api.ErrLength || w != (api.Tuple{}) {
		t.Error("Whole", w, e)
	}
	want := flow(false, api.Udp)
	want.Dst, want.DPort = addr.V6(5, 5), -7
	if w, e := Whole(good, 9, addr.V6(5, 5), -7); e != api.OK || w != want {
		t.Error("Whole of another side", w, e)
	}
	if w, e := Whole(message, Src, addr.V4(5), 6); e != api.OK || w != (api.Tuple{Proto: api.Icmp4, Src: addr.V4(5), Dst: addr.V4(0x0a000001), SPort: 6}) {
		t.Error("Whole of a message", w, e)
	}
	if Least(true) != 40 || Least(false) != 20 || Src != 0 || Dst != 1 {
		t.Error("names")
	}
}

func TestChecksOfUdp(t *testing.T) { // 15.1
	f := flow(false, api.Udp)
	body, _ := udp.Bytes(udp.Head{SPort: f.SPort, DPort: f.DPort, Bare: true}, []byte{1, 2}, nil)
	bare, _ := four.Bytes(four.Head{TTL: 3, Proto: api.Udp, Src: f.Src, Dst: f.Dst}, body)
	out, e := Turn(bare, Dst, addr.V4(99), 7)
	if e != api.OK || out[26] != 0 || out[27] != 0 {
		t.Fatal("one that is 0 stays", e)
	}
	b := made(f, []byte{1, 2})
	zeros := 0
	for port := range 65536 {
		out, _ := Turn(b, Src, addr.V4(0x0a000009), port)
		want := sum.Words(uint16(b[26])<<8|uint16(b[27]), []uint16{0x0a00, 1, 1000}, []uint16{0x0a00, 9, uint16(port)})
		if want == 0 {
			want = 0xffff
			zeros++
		}
		if uint16(out[26])<<8|uint16(out[27]) != want {
			t.Fatal(port)
		}
	}
	if zeros == 0 {
		t.Fatal("no check would become 0")
	}
}

func TestTurnBehindMore(t *testing.T) { // 15.1: behind options, and headers that extend
	f := flow(true, api.Udp)
	body, _ := udp.Bytes(udp.Head{SPort: f.SPort, DPort: f.DPort}, []byte{1, 2}, six.Pseudo(f.Src, f.Dst, api.Udp, 10))
	b, _ := six.Bytes(six.Head{Hop: 3, Proto: api.Udp, Src: f.Src, Dst: f.Dst, Ext: []six.Ext{{Kind: six.Hops, Data: make([]byte, 7)}}}, body)
	out, e := Turn(b, Dst, addr.V6(9, 9), 53)
	f.Dst, f.DPort = addr.V6(9, 9), 53
	if p, g := pkt.Parse(out); e != api.OK || g != api.OK || p.Flow != f {
		t.Fatal(p, e, g)
	}
	f = flow(false, api.Udp)
	body, _ = udp.Bytes(udp.Head{SPort: f.SPort, DPort: f.DPort}, []byte{1, 2}, four.Pseudo(f.Src, f.Dst, api.Udp, 10))
	b, _ = four.Bytes(four.Head{TTL: 3, Proto: api.Udp, Src: f.Src, Dst: f.Dst, Options: []byte{1, 1, 1, 0}}, body)
	out, e = Turn(b, Src, addr.V4(99), 53)
	f.Src, f.SPort = addr.V4(99), 53
	if p, g := pkt.Parse(out); e != api.OK || g != api.OK || p.Flow != f {
		t.Fatal(p, e, g)
	}
}
