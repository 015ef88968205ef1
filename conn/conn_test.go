package conn

import (
	"math"
	"testing"

	"distributary/api"
	"distributary/tcp"
)

func TestRule(t *testing.T) { // 28.1
	if Plain() != (Rule{30, 3600, 60, 120}) || !Right(Plain()) || Right(Rule{}) || !Right(Rule{1, 1, 1, 1}) || !Right(Rule{1 << 30, 1 << 30, 1 << 30, 1 << 30}) {
		t.Error("rules")
	}
	for i := range 4 {
		for _, n := range []int64{0, -1, 1<<30 + 1, math.MaxInt64, math.MinInt64} {
			l := [4]int64{1, 1, 1, 1}
			l[i] = n
			if Right(Rule{l[0], l[1], l[2], l[3]}) {
				t.Error(l)
			}
		}
	}
	r := Rule{2, 3, 5, 7}
	for state, want := range map[int]int64{-1: 0, 0: 0, 1: 2, 2: 3, 3: 5, 4: 0, 5: 7, 6: 0, math.MaxInt: 0, math.MinInt: 0} {
		if got := Idle(r, state); got != want {
			t.Error("Idle", state, got)
		}
	}
	for state, want := range map[int]string{-1: "none", 0: "none", 1: "opening", 2: "open", 3: "closing", 4: "closed", 5: "datagram", 6: "none", 9: "none", math.MaxInt: "none", math.MinInt: "none"} {
		if got := Name(state); got != want {
			t.Error("Name", state, got)
		}
	}
	if Opening != 1 || Open != 2 || Closing != 3 || Closed != 4 || Datagram != 5 {
		t.Error("names")
	}
}

func TestStates(t *testing.T) { // 28.2
	for f := -1; f < 256; f++ {
		want := Open
		if f&tcp.Syn != 0 {
			want = Opening
		}
		if f&tcp.Fin != 0 {
			want = Closing
		}
		if f&tcp.Rst != 0 {
			want = Closed
		}
		if Begin(api.Tcp, f) != want || Begin(api.Udp, f) != Datagram || Begin(0, f) != Datagram {
			t.Error("Begin", f)
		}
		for state := -1; state < 8; state++ {
			next := want
			if state == Closing && want != Closed {
				next = Closing
			}
			if state == Closed || state == Datagram {
				next = state
			}
			if got := Next(state, f); got != next {
				t.Error("Next", state, f, got)
			}
		}
	}
}

func TestRun(t *testing.T) { // 28.2
	for i, c := range []struct {
		proto int
		flags []int
		want  int
	}{
		{6, nil, 0}, {17, nil, 0}, {6, []int{tcp.Syn}, Opening}, {6, []int{tcp.Syn, tcp.Ack}, Open}, {6, []int{tcp.Syn, tcp.Ack, tcp.Fin}, Closing}, {6, []int{tcp.Syn, tcp.Fin, tcp.Syn}, Closing}, {6, []int{tcp.Rst, tcp.Syn}, Closed},
		{17, []int{tcp.Rst}, Datagram}, {17, []int{0, tcp.Rst}, Datagram}, {6, []int{tcp.Ack, tcp.Fin, tcp.Rst, tcp.Ack}, Closed},
	} {
		if got := Run(c.proto, c.flags...); got != c.want {
			t.Error(i, got)
		}
	}
}
