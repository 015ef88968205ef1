package sum

import (
	"math"
	"slices"
	"testing"
)

// bytesOf are so many bytes, made by a number.
func bytesOf(n int, by uint64) []byte {
	b := make([]byte, n)
	for i := range b {
		by = by*6364136223846793005 + 1442695040888963407
		b[i] = byte(by >> 56)
	}
	return b
}

// slow is the words together, modulo 65535, 65535 standing for 0, unless all are 0.
func slow(b []byte) uint16 {
	n, any := 0, false
	for i, x := range b {
		any = any || x != 0
		if i%2 == 0 {
			n += int(x) * 256
		} else {
			n += int(x)
		}
	}
	if n %= 65535; n == 0 && any {
		n = 65535
	}
	return uint16(n)
}

func TestOf(t *testing.T) { // 4.1, 4.3
	if Of([]byte{0x00, 0x01, 0xf2, 0x03}) != 0xf204 || Of() != 0 || Of(nil, []byte{}) != 0 || Of([]byte{1}) != 0x100 {
		t.Fatal("examples")
	}
	if Of([]byte{0xff, 0xff}) != 0xffff || Of([]byte{0xff, 0xff, 0, 1}) != 1 || Of(make([]byte, 9)) != 0 {
		t.Fatal("carries")
	}
	for n := range 300 {
		b := bytesOf(n, uint64(n))
		if Of(b) != slow(b) || Check(b) != 65535-slow(b) || Right(b) != (slow(b) == 65535) {
			t.Fatal(n)
		}
		a := n * 3 / 7
		c := a + (n-a)/2
		if Of(b[:a], b[a:c], nil, b[c:]) != slow(b) || Check(b[:a], b[a:]) != Check(b) {
			t.Fatal("parts", n)
		}
	}
	ones := make([]byte, 200000)
	for i := range ones {
		ones[i] = 0xff
	}
	if Of(ones) != 0xffff || !Right(ones) || Right(ones[1:]) {
		t.Fatal("many")
	}
}

func TestAdd(t *testing.T) { // 4.1
	for _, c := range [][3]uint16{{0, 0, 0}, {1, 2, 3}, {0xffff, 1, 1}, {0xffff, 0xffff, 0xffff}, {0x8000, 0x8000, 1}, {0xffff, 0, 0xffff}} {
		if Add(c[0], c[1]) != c[2] {
			t.Error(c, Add(c[0], c[1]))
		}
	}
}

func TestTurn(t *testing.T) { // 4.2, 4.4
	if Turn(0xdd2f, 0x5555, 0x3285) != 0x0000 { // RFC 1624, chapter 4
		t.Fatalf("%x", Turn(0xdd2f, 0x5555, 0x3285))
	}
	for n := range 200 {
		b := bytesOf(20, uint64(n)+1)
		b[10], b[11] = 0, 0
		check := Check(b)
		b[10], b[11] = byte(check>>8), byte(check)
		if !Right(b) {
			t.Fatal("put in", n)
		}
		at := n % 10 * 2
		if at == 10 {
			continue
		}
		from := uint16(b[at])<<8 | uint16(b[at+1])
		to := uint16(n * 331)
		b[at], b[at+1] = byte(to>>8), byte(to)
		check = Turn(check, from, to)
		b[10], b[11] = byte(check>>8), byte(check)
		if !Right(b) {
			t.Fatal("turned", n)
		}
	}
}

func TestWords(t *testing.T) { // 4.2
	from, to := []uint16{1, 0xffff, 7, 9}, []uint16{5, 3, 0}
	want := Turn(Turn(Turn(0x1234, 1, 5), 0xffff, 3), 7, 0)
	if Words(0x1234, from, to) != want || Words(0x1234, from[:3], append(to, 8)) != want {
		t.Fatal("lists")
	}
	if Words(9, nil, to) != 9 || Words(9, from, nil) != 9 {
		t.Fatal("nothing")
	}
}

func TestSplit(t *testing.T) { // 4.2
	n := uint64(0x1111222233334444)
	for _, c := range []struct {
		words int
		want  []uint16
	}{
		{0, nil}, {1, []uint16{0x4444}}, {2, []uint16{0x3333, 0x4444}}, {3, []uint16{0x2222, 0x3333, 0x4444}},
		{4, []uint16{0x1111, 0x2222, 0x3333, 0x4444}}, {-1, nil}, {math.MinInt, nil},
	} {
		if got := Split(n, c.words); !slices.Equal(got, c.want) {
			t.Error(c.words, got)
		}
	}
	if len(Split(n, math.MaxInt)) > 4 {
		t.Error("too many")
	}
}
