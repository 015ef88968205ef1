package octet

import (
	"bytes"
	"encoding/binary"
	"math"
	"testing"

	"distributary/api"
)

func TestPut(t *testing.T) { // 7.1
	n := uint64(0x0102030405060708)
	all := binary.BigEndian.AppendUint64(nil, n)
	for size := -2; size <= 10; size++ {
		held := min(max(size, 0), 8)
		got := Put([]byte{9, 9}, n, size)
		if !bytes.Equal(got, append([]byte{9, 9}, all[8-held:]...)) {
			t.Error("Put", size, got)
		}
		want := append([]byte{}, all[8-held:]...)
		want = append(want, binary.BigEndian.AppendUint64(nil, 5)[8-held:]...)
		if got := All(nil, size, n, 5); !bytes.Equal(got, want) {
			t.Error("All", size, got)
		}
	}
	if !bytes.Equal(Put(nil, 258, 2), []byte{1, 2}) || len(All(nil, 4)) != 0 || len(Put(nil, 1, math.MinInt)) != 0 || len(Put(nil, 1, math.MaxInt)) != 8 {
		t.Error("edges")
	}
}

func TestAt(t *testing.T) { // 7.1
	b := []byte{1, 2, 3, 4, 5, 6, 7, 8, 9, 10}
	for at := range 14 {
		for size := -1; size <= 10; size++ {
			want := uint64(0)
			for i := at; i < at+min(max(size, 0), 8); i++ {
				want *= 256
				if i < len(b) {
					want += uint64(b[i])
				}
			}
			if got := At(b, at, size); got != want {
				t.Error(at, size, got, want)
			}
		}
	}
	if At(b, math.MaxInt, 8) != 0 || At(b, len(b), math.MaxInt) != 0 || At(nil, 0, 8) != 0 || At(nil, 1, 8) != 0 || At(b, 0, math.MaxInt) != 0x0102030405060708 || At(b, 0, math.MinInt) != 0 {
		t.Error("edges")
	}
}

func TestAtBelow(t *testing.T) { // 7.1, R5
	b := []byte{2, 3, 7, 44}
	for _, at := range []int{-1, -2, -7, -8, -9, math.MinInt, math.MinInt + 1} {
		for _, size := range []int{math.MinInt, -1, 0, 1, 2, 3, 7, 8, 9, math.MaxInt} {
			if got := At(b, at, size); got != 0 {
				t.Error(at, size, got)
			}
			if got := At(b[:1], at, size) + At(nil, at, size); got != 0 {
				t.Error("of fewer", at, size, got)
			}
		}
	}
	if At([]byte{1}, -1, 2) != 0 || At([]byte{1}, 0, 2) != 256 || At(b, 3, 2) != 44*256 || At(b, 4, 2) != 0 {
		t.Error("edges")
	}
}

func TestSet(t *testing.T) { // 7.2
	b := []byte{1, 2, 3, 4, 5, 6, 7, 8, 9, 10}
	was := bytes.Clone(b)
	for at := -3; at < 14; at++ {
		for size := -2; size <= 10; size++ {
			want := bytes.Clone(was)
			if size >= 0 && size <= 8 && at >= 0 && at+size <= len(b) {
				copy(want[at:], binary.BigEndian.AppendUint64(nil, 0xf1f2f3f4f5f6f7f8)[8-size:])
			}
			got := Set(b, at, 0xf1f2f3f4f5f6f7f8, size)
			if !bytes.Equal(got, want) || !bytes.Equal(b, was) {
				t.Fatal(at, size, got)
			}
			got[0] = 77
			if b[0] != 1 {
				t.Fatal("shared")
			}
		}
	}
	for _, at := range []int{math.MaxInt, math.MinInt} {
		if !bytes.Equal(Set(b, at, 9, 8), was) || !bytes.Equal(Set(b, 0, 9, at), was) {
			t.Fatal("edges")
		}
	}
}

func TestReader(t *testing.T) { // 7.3
	b := []byte{1, 2, 3, 4, 5, 6, 7, 8, 9, 10, 11, 12, 13, 14, 15, 16, 17}
	r := Read(b)
	if r.Left() != 17 || r.Num(2) != 0x0102 || r.Num(0) != 0 || r.Left() != 15 || r.Num(9) != 0x0405060708090a0b || r.Err() != api.OK {
		t.Fatal("Num")
	}
	raw := r.Raw(2)
	if !bytes.Equal(raw, []byte{12, 13}) || &raw[0] != &b[11] || cap(raw) != 2 {
		t.Fatal("Raw is not in place", raw)
	}
	if rest := r.Rest(); !bytes.Equal(rest, []byte{14, 15, 16, 17}) || r.Err() != api.OK {
		t.Fatal("Rest", rest)
	}
	if len(Read(nil).Rest()) != 0 || len(Read(nil).Raw(0)) != 0 || Read(nil).Left() != 0 {
		t.Fatal("nothing")
	}
}

func TestReaderErrors(t *testing.T) { // 7.3
	for _, n := range []int{-1, 4, math.MinInt, math.MaxInt} {
		r := Read([]byte{1, 2, 3})
		if r.Raw(n) != nil || r.Err() != api.ErrShort || r.Left() != 0 || r.Num(1) != 0 || len(r.Raw(1)) != 0 || len(r.Raw(0)) != 0 || len(r.Rest()) != 0 {
			t.Error("Raw", n)
		}
		r = Read([]byte{1, 2, 3})
		if r.Num(n) != 0 || r.Err() != api.ErrShort || r.Left() != 0 {
			t.Error("Num", n)
		}
		r.Fail(api.ErrForm)
		if r.Err() != api.ErrShort {
			t.Error("not the first error")
		}
	}
	r := Read([]byte{1, 2, 3})
	r.Fail(api.OK)
	if r.Err() != api.OK || r.Num(1) != 1 {
		t.Error("OK is no error")
	}
	r.Fail(api.ErrForm)
	if r.Err() != api.ErrForm || r.Num(1) != 0 || r.Left() != 0 || len(r.Rest()) != 0 || r.Err() != api.ErrForm {
		t.Error("Fail")
	}
	var none *Reader
	none.Fail(api.ErrForm)
	if none.Num(1) != 0 || len(none.Raw(1)) != 0 || len(none.Rest()) != 0 || none.Left() != 0 || none.Err() != api.OK {
		t.Error("nil")
	}
}
