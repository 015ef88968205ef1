package trace

import (
	"slices"
	"testing"

	"distributary/api"
)

// told is packets of so many bytes to hosts.
func told(e api.Errno, hosts ...int) api.Told {
	t := api.Told{Err: e}
	for i, h := range hosts {
		t.Outs = append(t.Outs, api.Out{Host: h, Bytes: make([]byte, 10+i)})
	}
	return t
}

func TestLog(t *testing.T) { // 41.1
	var l Log
	if l.Len() != 0 || len(l.Shares()) != 0 || len(l.Errs()) != 0 || l.Moves() != 0 || l.Skew() != 0 || l.Count(0, 0) != 0 {
		t.Fatal("zero value")
	}
	l.Note(api.Op{Kind: 1}, told(0))
	l.All([]api.Op{{Kind: 1}, {Kind: 2}, {Kind: 1}}, []api.Told{told(5), told(5)})
	l.All([]api.Op{{Kind: 1}}, []api.Told{told(5), told(9)})
	l.All(nil, []api.Told{told(5)})
	if l.Len() != 4 || l.Count(1, 0) != 1 || l.Count(1, 5) != 2 || l.Count(2, 5) != 1 || l.Count(2, 0) != 0 || l.Count(3, 5) != 0 {
		t.Error("rows")
	}
}

func TestShares(t *testing.T) { // 41.2
	var l Log
	l.Note(api.Op{}, told(0, 9, 2))
	l.Note(api.Op{}, told(3))
	l.Note(api.Op{}, told(25, 2, -4, 2))
	if got := l.Shares(); !slices.Equal(got, []Share{{-4, 1, 11}, {2, 3, 33}, {9, 1, 10}}) {
		t.Error(got)
	}
	if got := l.Errs(); !slices.Equal(got, [][2]int{{0, 1}, {3, 1}, {25, 1}}) {
		t.Error(got)
	}
	for range 5 {
		l.Note(api.Op{}, told(3))
	}
	if got := l.Errs(); !slices.Equal(got, [][2]int{{0, 1}, {3, 6}, {25, 1}}) || l.Skew() != 600 {
		t.Error(got, l.Skew())
	}
}

func TestOrder(t *testing.T) { // 41.2
	var l Log
	for i := range 26 {
		l.Note(api.Op{}, told(api.Errno(i*11%26), i*7%26))
	}
	errs, shares := l.Errs(), l.Shares()
	for i := range 26 {
		if errs[i] != [2]int{i, 1} || shares[i].Host != i {
			t.Fatal(errs, shares)
		}
	}
}

func TestMoves(t *testing.T) { // 41.2
	for i, c := range []struct {
		rows        [][]int
		moves, skew int
	}{
		{[][]int{{1}, {2}, {1}}, 2, 666}, {[][]int{{1, 2, 1}}, 2, 666}, {[][]int{{1, 1}, {}, {1}}, 0, 1000}, {[][]int{{-1, 1}, {-1}, {-2, 5}}, 1, 400}, {[][]int{{0}, {1}}, 1, 500}, {[][]int{{1}, {}, {2, 2}, {3}}, 2, 500}, {[][]int{{}}, 0, 0},
	} {
		var l Log
		for _, hosts := range c.rows {
			l.Note(api.Op{}, told(0, hosts...))
		}
		if l.Moves() != c.moves || l.Skew() != c.skew {
			t.Error(i, l.Moves(), l.Skew())
		}
	}
}

func TestNotKept(t *testing.T) { // R3
	var l Log
	x := told(0, 4, 5)
	l.Note(api.Op{}, x)
	x.Outs[0].Host = 9
	if got := l.Shares(); got[0].Host != 4 {
		t.Error("kept")
	}
}

func TestNone(t *testing.T) { // 41.2
	var l *Log
	l.Note(api.Op{}, told(0, 1))
	l.All([]api.Op{{}}, []api.Told{told(0, 1)})
	if l.Len() != 0 || l.Count(0, 0) != 0 || len(l.Shares()) != 0 || len(l.Errs()) != 0 || l.Moves() != 0 || l.Skew() != 0 {
		t.Error("nil")
	}
}
