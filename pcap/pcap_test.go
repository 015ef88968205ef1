package pcap

import (
	"bytes"
	"encoding/binary"
	"reflect"
	"testing"

	"distributary/api"
)

func small(big bool) File {
	return File{Big: big, Snap: 100, Link: 101, Records: []Record{{Sec: 0x01020304, Micro: 999999, Size: 3, Bytes: []byte{7, 8, 9}}, {Sec: 5, Micro: 6, Size: 70000, Bytes: []byte{1}}}}
}

// plain is a file as bytes, put by the library.
func plain(f File) []byte {
	var o binary.AppendByteOrder = binary.LittleEndian
	if f.Big {
		o = binary.BigEndian
	}
	b := o.AppendUint32(nil, 0xa1b2c3d4)
	b = o.AppendUint16(o.AppendUint16(b, 2), 4)
	for _, n := range []uint32{0, 0, f.Snap, f.Link} {
		b = o.AppendUint32(b, n)
	}
	for _, r := range f.Records {
		for _, n := range []uint32{r.Sec, r.Micro, uint32(len(r.Bytes)), r.Size} {
			b = o.AppendUint32(b, n)
		}
		b = append(b, r.Bytes...)
	}
	return b
}

func TestBytesRead(t *testing.T) { // 36.1, 36.2, 36.3
	for _, big := range []bool{false, true} {
		f := small(big)
		b, e := Bytes(f)
		if e != api.OK || !bytes.Equal(b, plain(f)) {
			t.Fatal(b, e)
		}
		got, e := Read(b)
		if e != api.OK || !reflect.DeepEqual(got, f) {
			t.Fatal(got, e)
		}
		if b[40] = 99; got.Records[0].Bytes[0] != 7 {
			t.Fatal("shared")
		}
		empty, _ := Bytes(File{Big: big})
		if got, e := Read(empty); len(empty) != 24 || e != api.OK || got.Big != big || len(got.Records) != 0 {
			t.Fatal("without records", e)
		}
	}
}

func TestRight(t *testing.T) { // 36.1
	for i, c := range []struct {
		change func(f *File)
		want   bool
	}{
		{func(f *File) {}, true}, {func(f *File) { f.Records[1].Micro = 1000000 }, false}, {func(f *File) { f.Snap = 3 }, true}, {func(f *File) { f.Snap = 2 }, false}, {func(f *File) { f.Records[0].Size = 2 }, false}, {func(f *File) { f.Records[0].Size = 4 }, true},
		{func(f *File) { f.Snap = 1 << 31; f.Records[1] = Record{Size: 1 << 31, Bytes: make([]byte, 65536)} }, true}, {func(f *File) { f.Snap = 1 << 31; f.Records[1] = Record{Size: 1 << 31, Bytes: make([]byte, 65537)} }, false},
		{func(f *File) { f.Records = make([]Record, 4096) }, true}, {func(f *File) { f.Records = make([]Record, 4097) }, false},
	} {
		f := small(true)
		c.change(&f)
		b, e := Bytes(f)
		if Right(f) != c.want || (e == api.OK) != c.want || (b != nil) != c.want || !c.want && e != api.ErrArg {
			t.Error(i, e)
		}
		if got, e := Read(plain(f)); c.want && (e != api.OK || !bytes.Equal(plain(got), plain(f))) || !c.want && (e != api.ErrRange && e != api.ErrFull || !reflect.DeepEqual(got, File{})) {
			t.Error("Read", i, e)
		}
	}
	if MaxRecords != 4096 {
		t.Error("limit")
	}
}

func TestReadErrors(t *testing.T) { // 36.2
	set := func(b []byte, at int, v byte) []byte {
		b = bytes.Clone(b)
		b[at] = v
		return b
	}
	for _, big := range []bool{false, true} {
		b := plain(small(big))
		for n := range 24 {
			if _, e := Read(b[:n]); e != api.ErrShort {
				t.Error(n, e)
			}
		}
		for at := range 24 {
			want := api.OK
			if at < 16 {
				want = api.ErrVersion
			}
			if at < 4 {
				want = api.ErrForm
			}
			if _, e := Read(set(b[:24], at, 0x55)); e != want {
				t.Error(at, e)
			}
		}
		for n := 25; n < len(b); n++ {
			want := api.ErrShort
			if n == 24+16+3 {
				want = api.OK
			}
			if f, e := Read(b[:n]); e != want || e != api.OK && !reflect.DeepEqual(f, File{}) {
				t.Error(n, e)
			}
		}
		at := 24 + 8
		if big {
			at += 3
		}
		if _, e := Read(set(b, at, 200)); e != api.ErrShort {
			t.Error("bytes lack", e)
		}
		huge := bytes.Clone(b)
		copy(huge[24+8:], []byte{255, 255, 255, 255})
		if _, e := Read(huge); e != api.ErrShort {
			t.Error("very many bytes lack", e)
		}
		full := plain(File{Big: big, Records: make([]Record, 4096)})
		if f, e := Read(full); e != api.OK || len(f.Records) != 4096 {
			t.Error("full", e)
		}
		if _, e := Read(append(full, 0)); e != api.ErrShort {
			t.Error("ErrShort is first", e)
		}
		if _, e := Read(append(full, huge[24:40]...)); e != api.ErrFull {
			t.Error("one too many", e)
		}
	}
}

func TestPackets(t *testing.T) { // 36.1
	f := small(true)
	f.Records = append(f.Records, Record{Size: 0}, Record{Size: 2, Bytes: []byte{4, 5}}, Record{Size: 1, Bytes: []byte{4, 5}})
	l := Packets(f)
	if !reflect.DeepEqual(l, [][]byte{{7, 8, 9}, {}, {4, 5}}) && !(len(l) == 3 && len(l[1]) == 0 && l[0][2] == 9 && l[2][1] == 5) {
		t.Fatal(l)
	}
	if l[0][0] = 99; f.Records[0].Bytes[0] != 7 || len(Packets(File{})) != 0 {
		t.Fatal("shared")
	}
}
