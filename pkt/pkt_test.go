package pkt

import (
	"bytes"
	"testing"

	"distributary/addr"
	"distributary/api"
	"distributary/four"
	"distributary/icmp"
	"distributary/six"
	"distributary/tcp"
	"distributary/udp"
)

func flow(v6 bool, proto int) api.Tuple {
	t := api.Tuple{Proto: proto, Src: addr.V4(0x0a000001), Dst: addr.V4(0x0a000002), SPort: 1000, DPort: 80}
	if v6 {
		t.Src, t.Dst = addr.V6(1, 2), addr.V6(3, 4)
	}
	return t
}

// made is a packet of a flow, that must be made.
func made(t *testing.T, x api.Tuple, ttl, flags int, payload []byte) []byte {
	t.Helper()
	b, e := Segment(x, ttl, flags, payload)
	if x.Proto == api.Udp {
		b, e = Datagram(x, ttl, payload)
	}
	if e != api.OK {
		t.Fatal(x, e)
	}
	return b
}

func TestParseMade(t *testing.T) { // 13.1, 13.3, 13.4
	for _, v6 := range []bool{false, true} {
		for _, proto := range []int{api.Tcp, api.Udp} {
			for n := range 60 {
				x := flow(v6, proto)
				b := made(t, x, 60+n, n, make([]byte, n))
				want := Packet{V6: v6, Flow: x, TTL: 60 + n, Size: len(b)}
				if proto == api.Tcp {
					want.Flags = n
				}
				if p, e := Parse(append(b, 7, 7)); p != want || e != api.OK || p.Key() != x {
					t.Fatal(p, want, e)
				}
				over := map[bool]int{false: 20, true: 40}[v6] + map[int]int{api.Tcp: 20, api.Udp: 8}[proto]
				if len(b) != over+n {
					t.Fatal("size", len(b))
				}
			}
		}
	}
	b, _ := Segment(flow(false, api.Tcp), 9, tcp.Syn, nil)
	_, behind, _ := four.Parse(b)
	h, _, _ := tcp.Parse(behind, four.Pseudo(addr.V4(0x0a000001), addr.V4(0x0a000002), api.Tcp, len(behind)))
	if h.Window != 1024 || h.Seq != 0 || h.Ack != 0 || h.Urgent != 0 || len(h.Options) != 0 || h.Flags != tcp.Syn {
		t.Fatal(h)
	}
}

func TestParseErrors(t *testing.T) { // 13.1
	x := flow(false, api.Udp)
	head := four.Head{TTL: 9, Proto: api.Udp, Src: x.Src, Dst: x.Dst}
	pack := func(h four.Head, behind []byte) []byte {
		b, _ := four.Bytes(h, behind)
		return b
	}
	pack6 := func(h six.Head, behind []byte) []byte {
		b, _ := six.Bytes(h, behind)
		return b
	}
	bare, _ := udp.Bytes(udp.Head{SPort: 1, DPort: 2, Bare: true}, nil, nil)
	part, more, other, none, echo := head, head, head, head, head
	part.Frag, more.MF, other.Proto, none.Proto, echo.Proto = 1, true, api.Icmp6, 99, api.Icmp4
	ping, _ := icmp.Bytes(icmp.Msg{Type: 8}, nil)
	bad := made(t, x, 9, 0, []byte{1})
	bad[len(bad)-1] ^= 1
	big := made(t, x, 9, 0, make([]byte, 9000-28))
	six1 := six.Head{Hop: 9, Proto: api.Udp, Src: addr.V6(1, 2), Dst: addr.V6(3, 4)}
	six2, six3, six4 := six1, six1, six1
	six2.Ext = []six.Ext{{Kind: six.Part, Data: []byte{0, 0, 1, 0, 0, 0, 0}}}
	six3.Ext = []six.Ext{{Kind: six.Part, Data: []byte{0, 0, 8, 0, 0, 0, 0}}}
	six4.Proto = api.Icmp4
	for i, c := range []struct {
		b    []byte
		want api.Errno
	}{
		{nil, api.ErrShort}, {[]byte{0}, api.ErrVersion}, {[]byte{0x50}, api.ErrVersion}, {[]byte{0x45}, api.ErrShort}, {[]byte{0x60}, api.ErrShort}, {make([]byte, 9001), api.ErrBig}, {make([]byte, 9000), api.ErrVersion},
		{big, api.OK}, {append(big, 0), api.ErrBig}, {made(t, x, 9, 0, nil)[:27], api.ErrLength}, {pack(part, bare), api.ErrFrag}, {pack(more, bare), api.ErrFrag}, {pack(none, nil), api.ErrProto}, {pack(other, ping), api.ErrProto},
		{pack(echo, ping), api.ErrIcmp}, {pack(echo, ping[:7]), api.ErrShort}, {pack(head, bare), api.OK}, {bad, api.ErrSum}, {pack(head, bare[:7]), api.ErrShort}, {pack(head, append(bare, 1)), api.ErrLength},
		{pack6(six1, bare), api.ErrSum}, {pack6(six2, bare), api.ErrFrag}, {pack6(six3, bare), api.ErrFrag}, {pack6(six4, ping), api.ErrProto},
	} {
		p, e := Parse(c.b)
		if e != c.want || e != api.OK && p != (Packet{}) {
			t.Error(i, p, e)
		}
	}
	if MaxSize != 9000 {
		t.Error("MaxSize")
	}
}

func TestParseThroughParts(t *testing.T) { // 13.1: a part that is all of it is no part
	x := flow(true, api.Udp)
	body, _ := udp.Bytes(udp.Head{SPort: x.SPort, DPort: x.DPort}, []byte{1}, six.Pseudo(x.Src, x.Dst, api.Udp, 9))
	h := six.Head{Hop: 3, Proto: api.Udp, Src: x.Src, Dst: x.Dst, Ext: []six.Ext{{Kind: six.Part, Data: make([]byte, 7)}, {Kind: six.Options, Data: make([]byte, 7)}}}
	b, _ := six.Bytes(h, body)
	if p, e := Parse(b); e != api.OK || p != (Packet{V6: true, Flow: x, TTL: 3, Size: len(b)}) {
		t.Error(p, e)
	}
}

func TestUnreach(t *testing.T) { // 13.1 to 13.4
	for _, v6 := range []bool{false, true} {
		for _, proto := range []int{api.Tcp, api.Udp} {
			x := flow(v6, proto)
			about := made(t, x, 9, 16, make([]byte, 100))
			from, least, kind, icmpProto := addr.V4(77), 28, 3, api.Icmp4
			if v6 {
				from, least, kind, icmpProto = addr.V6(7, 7), 48, 1, api.Icmp6
			}
			for _, most := range []int{least, least + 1, 64, len(about), len(about) + 1, 1 << 62} {
				b, e := Unreach(from, 33, about, most)
				p, f := Parse(b)
				want := Packet{V6: v6, Flow: api.Tuple{Proto: icmpProto, Src: from, Dst: x.Src}, TTL: 33, Error: true, About: icmp.Back(x), Size: len(b)}
				if e != api.OK || f != api.OK || p != want || p.Key() != want.About || p.Opens() {
					t.Fatal(v6, proto, most, p, e, f)
				}
				if len(b) != least+min(most, len(about)) || int(b[least-8]) != kind || !bytes.HasSuffix(b, about[:min(most, len(about))]) {
					t.Fatal("quoted", most, len(b))
				}
				if _, e := Unreach(from, 33, b, 9999); e != api.ErrArg {
					t.Fatal("about an error", e)
				}
			}
			if b, e := Unreach(from, 33, about, -5); e != api.OK || len(b) != least {
				t.Fatal("below 0", e)
			}
			if b, e := Unreach(flow(!v6, 6).Src, 33, about, 50); e != api.ErrArg || b != nil {
				t.Fatal("another version", e)
			}
			if b, e := Unreach(from, 256, about, 50); e != api.ErrArg || b != nil {
				t.Fatal("time to live", e)
			}
			if b, e := Unreach(from, 1, about[:30], 50); e == api.OK || b != nil {
				t.Fatal("Parse's error", e)
			}
		}
	}
	if _, e := Unreach(addr.V4(1), 1, nil, 1); e != api.ErrShort {
		t.Fatal(e)
	}
}

func TestMakeErrors(t *testing.T) { // 13.3
	for i, c := range []struct {
		change func(x *api.Tuple)
		ttl    int
		size   int
		want   api.Errno
	}{
		{func(x *api.Tuple) { x.Proto = 5 }, 1, 0, api.ErrArg}, {func(x *api.Tuple) { x.Dst = addr.V6(1, 1) }, 1, 0, api.ErrArg}, {func(x *api.Tuple) { x.SPort = 65536 }, 1, 0, api.ErrArg},
		{func(x *api.Tuple) { x.DPort = -1 }, 1, 70000, api.ErrArg}, {func(x *api.Tuple) {}, 256, 0, api.ErrArg}, {func(x *api.Tuple) {}, -1, 0, api.ErrArg},
		{func(x *api.Tuple) { x.Src.Lo = 1 << 32 }, 1, 0, api.ErrArg}, {func(x *api.Tuple) {}, 1, 65535, api.ErrBig}, {func(x *api.Tuple) {}, 1, 65535 - 28, api.OK}, {func(x *api.Tuple) {}, 0, 0, api.OK},
	} {
		x := flow(false, api.Udp)
		c.change(&x)
		if b, e := Datagram(x, c.ttl, make([]byte, c.size)); e != c.want || (b == nil) == (e == api.OK) {
			t.Error("Datagram", i, e)
		}
		if x = flow(false, api.Tcp); c.size == 65535-28 {
			c.size -= 12
		}
		c.change(&x)
		if b, e := Segment(x, c.ttl, 0, make([]byte, c.size)); e != c.want || (b == nil) == (e == api.OK) {
			t.Error("Segment", i, e)
		}
	}
	if _, e := Segment(flow(false, api.Udp), 1, 0, nil); e != api.ErrArg {
		t.Error("a segment of UDP")
	}
	if _, e := Datagram(flow(false, api.Tcp), 1, nil); e != api.ErrArg {
		t.Error("a datagram of TCP")
	}
	if _, e := Segment(flow(false, api.Tcp), 1, 256, nil); e != api.ErrArg {
		t.Error("flags")
	}
}

func TestOpens(t *testing.T) { // 13.2
	for f := range 64 {
		p := Packet{Flow: api.Tuple{Proto: api.Tcp}, Flags: f}
		if p.Opens() != (tcp.Head{Flags: f}).Opens() {
			t.Error(f)
		}
		if p.Flow.Proto = api.Udp; p.Opens() {
			t.Error("of UDP")
		}
	}
	if !(Packet{Flow: api.Tuple{Proto: api.Tcp}, Flags: tcp.Syn}).Opens() {
		t.Error("Syn")
	}
}
