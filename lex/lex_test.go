package lex

import (
	"math"
	"reflect"
	"strconv"
	"strings"
	"testing"

	"distributary/api"
)

func TestRight(t *testing.T) { // 17.1
	for c := range 256 {
		if Right(byte(c)) != (c >= 32 && c <= 126 || c == 9 || c == 10) {
			t.Error(c)
		}
	}
}

func TestLines(t *testing.T) { // 17.1
	got, no, e := Lines("host a # b\n\n \t \n\tx  y\tz\t#\n#\nlast#last")
	want := []Line{{1, []string{"host", "a"}}, {4, []string{"x", "y", "z"}}, {6, []string{"last"}}}
	if !reflect.DeepEqual(got, want) || no != 0 || e != api.OK {
		t.Error(got, no, e)
	}
	for i, c := range []struct {
		s    string
		no   int
		e    api.Errno
		many int
	}{
		{"", 0, api.OK, 0}, {"\n\n", 0, api.OK, 0}, {"a", 0, api.OK, 1}, {"a\r\n", 1, api.ErrForm, 0}, {"a\nb\x7f", 2, api.ErrForm, 0}, {"a\n#\x00\n\x00", 2, api.ErrForm, 0}, {"é", 1, api.ErrForm, 0}, {"\xff", 1, api.ErrForm, 0},
		{strings.Repeat("a", 65536), 0, api.OK, 1}, {strings.Repeat("a", 65537), 0, api.ErrLong, 0}, {strings.Repeat("\x00", 65537), 0, api.ErrLong, 0},
		{strings.Repeat("a\n", 4095) + "a", 0, api.OK, 4096}, {strings.Repeat("a\n", 4096) + "a", 4097, api.ErrLong, 0}, {strings.Repeat("a\n", 4096) + "\x00", 4097, api.ErrLong, 0},
		{strings.Repeat("a\n", 4095) + "\x00\na", 4096, api.ErrForm, 0}, {strings.Repeat("\n", 5000), 4097, api.ErrLong, 0},
	} {
		l, no, e := Lines(c.s)
		if len(l) != c.many || no != c.no || e != c.e {
			t.Error(i, len(l), no, e)
		}
	}
}

func TestNumber(t *testing.T) { // 17.2
	for _, c := range []struct {
		w    string
		most int
		n    int
		ok   bool
	}{
		{"0", 0, 0, true}, {"0", -1, 0, false}, {"7", 7, 7, true}, {"8", 7, 0, false}, {"10", 10, 10, true}, {"999999999999999999", math.MaxInt, 999999999999999999, true}, {"1000000000000000000", math.MaxInt, 0, false},
		{"", 9, 0, false}, {"00", 9, 0, false}, {"01", 9, 0, false}, {"+1", 9, 0, false}, {"-1", 9, 0, false}, {"1 ", 9, 0, false}, {"1a", 99, 0, false}, {"0x1", 9, 0, false}, {"1_0", 99, 0, false}, {"/", math.MaxInt, 0, false}, {"1/", math.MaxInt, 0, false}, {"+1", math.MaxInt, 0, false}, {"1:", math.MaxInt, 0, false}, {":", 99, 0, false},
		{"99999999999999999999999", math.MaxInt, 0, false}, {"٣", 9, 0, false},
	} {
		if n, ok := Number(c.w, c.most); n != c.n || ok != c.ok {
			t.Error(c.w, n, ok)
		}
	}
	for n := range 2000 {
		if got, ok := Number(Digits(n*n), math.MaxInt); !ok || got != n*n || Digits(n) != strconv.Itoa(n) {
			t.Error(n)
		}
	}
	if Digits(-1) != "0" || Digits(math.MinInt) != "0" || Digits(math.MaxInt) != "9223372036854775807" {
		t.Error("Digits")
	}
}

func TestRow(t *testing.T) { // 17.2
	if Row() != "\n" || Row("a") != "a\n" || Row("a", "", "b") != "a  b\n" || Row("a b", "c") != "a b c\n" {
		t.Error("Row")
	}
}
