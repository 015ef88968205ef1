package say

import (
	"bytes"
	"reflect"
	"strings"
	"testing"

	"distributary/api"
)

// lines are ops, and their lines.
func lines() map[string]api.Op {
	return map[string]api.Op{
		"packet 00ff7a": {Kind: 1, Data: []byte{0, 255, 0x7a}}, "packet -": {Kind: 1}, "config 0a": {Kind: 4, Data: []byte{10}}, "config -": {Kind: 4},
		"packet " + strings.Repeat("ab", 65536): {Kind: 1, Data: bytes.Repeat([]byte{0xab}, 65536)},
		"probe 0 bad":                           {Kind: 2}, "probe 1099511627776 ok": {Kind: 2, Host: 1 << 40, Up: true}, "tick 0": {Kind: 3}, "tick 5": {Kind: 3, N: 5}, "tick 1099511627776": {Kind: 3, N: 1 << 40},
		"drain a": {Kind: 5, Name: "a", Up: true}, "fill a": {Kind: 5, Name: "a"}, "weight a/~! 7": {Kind: 6, Name: "a/~!", N: 7}, "weight " + strings.Repeat("x", 32) + " 0": {Kind: 6, Name: strings.Repeat("x", 32)}, "restart": {Kind: 7},
	}
}

func alike(a, b api.Op) bool {
	return bytes.Equal(a.Data, b.Data) && reflect.DeepEqual(api.Op{Kind: a.Kind, Name: a.Name, Host: a.Host, N: a.N, Up: a.Up}, api.Op{Kind: b.Kind, Name: b.Name, Host: b.Host, N: b.N, Up: b.Up})
}

func TestLines(t *testing.T) { // 34.1, 34.3
	for line, o := range lines() {
		if !Right(o) || Line(o) != line {
			t.Error(o.Kind, Line(o))
		}
		if got, e := Parse(line); e != api.OK || !alike(got, o) {
			t.Error(line, got, e)
		}
	}
}

func TestRight(t *testing.T) { // 34.1
	full := api.Op{Data: []byte{1}, Name: "a", Host: 1, N: 1, Up: true}
	for kind := -1; kind < 10; kind++ {
		for i := range 32 {
			o := api.Op{Kind: kind}
			if i&1 != 0 {
				o.Data = full.Data
			}
			if i&2 != 0 {
				o.Name = full.Name
			}
			if i&4 != 0 {
				o.Host = 1
			}
			if i&8 != 0 {
				o.N = 1
			}
			o.Up = i&16 != 0
			may := map[int]int{1: 1, 2: 4 | 16, 3: 8, 4: 1, 5: 2 | 16, 6: 2 | 8, 7: 0}
			fields, ok := may[kind]
			want := ok && i&^fields == 0 && (kind != 5 && kind != 6 || i&2 != 0)
			if Right(o) != want || (Line(o) != "") != want {
				t.Error(o)
			}
		}
	}
	for _, o := range []api.Op{
		{Kind: 1, Data: make([]byte, 65537)}, {Kind: 4, Data: make([]byte, 65537)}, {Kind: 2, Host: -1}, {Kind: 2, Host: 1<<40 + 1}, {Kind: 3, N: -1}, {Kind: 3, N: 1<<40 + 1}, {Kind: 6, Name: "a", N: -1}, {Kind: 6, Name: "a", N: 1<<40 + 1},
		{Kind: 5, Name: ""}, {Kind: 5, Name: strings.Repeat("x", 33)}, {Kind: 5, Name: "a b"}, {Kind: 5, Name: "a\tb"}, {Kind: 5, Name: "a\n"}, {Kind: 5, Name: "#"}, {Kind: 6, Name: "é"}, {Kind: 6, Name: "\x00"}, {Kind: 6, Name: "\x7f"},
	} {
		if Right(o) || Line(o) != "" {
			t.Error(o.Kind, o.Name, o.Host, o.N)
		}
	}
}

func TestParseErrors(t *testing.T) { // 34.1
	for _, s := range []string{"", " ", "tick", "tick ", "tick 05", "tick -1", "tick 5 ", " tick 5", "tick  5", "tick 5 5", "tick 1099511627777", "tick x", "Tick 5", "tick 5\n", "packet", "packet ", "packet 0", "packet 0A", "packet 0g", "packet -0", "packet --",
		"packet 00 ", "packet 00 00", "probe 1", "probe 1 up", "probe 1 OK", "probe 1 ok ok", "probe ok 1", "drain", "drain ", "drain a b", "drain #", "fill", "weight a", "weight a 01", "weight  1", "weight a 1 1", "restart ", "restart 1", "start", "-", "config", "drain " + strings.Repeat("x", 33), "packet " + strings.Repeat("00", 65537), strings.Repeat("x", 131088)} {
		if o, e := Parse(s); e != api.ErrForm || !alike(o, api.Op{}) {
			t.Error(s[:min(len(s), 20)], o.Kind, e)
		}
	}
	if o, e := Parse(strings.Repeat("x", 131089)); e != api.ErrLong || !alike(o, api.Op{}) {
		t.Error("long", e)
	}
}

func TestTextRead(t *testing.T) { // 34.2, 34.3
	ops := []api.Op{{Kind: 3, N: 5}, {Kind: 9}, {Kind: 7}, {Kind: 5, Name: "a b"}, {Kind: 5, Name: "a", Up: true}}
	s := Text(ops...)
	if s != "tick 5\nrestart\ndrain a\n" || Text() != "" || Text(api.Op{}) != "" {
		t.Fatal(s)
	}
	for _, s := range []string{s, strings.TrimSuffix(s, "\n")} {
		got, line, e := Read(s)
		if e != api.OK || line != 0 || len(got) != 3 || !alike(got[0], ops[0]) || !alike(got[1], ops[2]) || !alike(got[2], ops[4]) {
			t.Fatal(got, line, e)
		}
	}
	if got, line, e := Read(""); len(got) != 0 || line != 0 || e != api.OK {
		t.Error("nothing")
	}
	for i, c := range []struct {
		s    string
		line int
		want api.Errno
	}{
		{"\n", 0, api.ErrForm}, {"restart\n\n", 1, api.ErrForm}, {"restart\n\nrestart", 1, api.ErrForm}, {"restart\nx\ny", 1, api.ErrForm}, {"restart\r\n", 0, api.ErrForm}, {"restart\n" + strings.Repeat("x", 131089), 1, api.ErrLong},
		{strings.Repeat("restart\n", 4097), 0, api.ErrLong}, {strings.Repeat("restart\n", 4096) + "\n", 0, api.ErrLong}, {strings.Repeat("\n", 5000), 0, api.ErrLong},
	} {
		if got, line, e := Read(c.s); e != c.want || line != c.line || got != nil {
			t.Error(i, line, e)
		}
	}
	for _, s := range []string{strings.Repeat("restart\n", 4096), strings.Repeat("restart\n", 4095) + "restart"} {
		if got, line, e := Read(s); e != api.OK || line != 0 || len(got) != 4096 {
			t.Error("as many as may be", len(got), e)
		}
	}
	if MaxNumber != 1<<40 || MaxLines != 4096 {
		t.Error("limits")
	}
}

func TestTold(t *testing.T) { // 34.2
	for i, c := range []struct {
		t    api.Told
		want string
	}{
		{api.Told{}, "err 0 n 0"}, {api.Told{Err: api.ErrBig, N: 12}, "err 25 n 12"}, {api.Told{Err: -1, N: -5}, "err 0 n 0"},
		{api.Told{N: 2, Outs: []api.Out{{Host: 7, Bytes: []byte{1, 0xab}}, {Host: -1}}}, "err 0 n 2 to 7 01ab to 0 -"},
	} {
		if got := Told(c.t); got != c.want {
			t.Error(i, got)
		}
	}
}
