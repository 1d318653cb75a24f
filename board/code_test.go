package board_test

import (
	"math"
	"strings"
	"testing"

	"testliner/api"
	"testliner/board"
)

// P1.9: codes, the errors of Code, and their order.
func TestCode(t *testing.T) {
	n := func(l ...int) []int { return l }
	for i, c := range []struct {
		b    api.BoardMake
		code string
		e    api.Errno
	}{
		{made(n(0, 1, 2, 1, 2), 0, 1), "0/1a/2/1b/2", api.OK},
		{made(n(7, 6, 5), 3), "7/6d/5", api.OK},
		{made(n(0, 0, 0, 0, 0), 2, 3), "0/0c/0/0d/0", api.OK},
		{made(n(8, 0, 0), 0), "", api.ErrRange},
		{made(n(0, 8, 0), 0), "", api.ErrRange},
		{made(n(0, 0, -1), 0), "", api.ErrRange},
		{made(n(0, 0, 0), 4), "", api.ErrRange},
		{made(n(0, 0, 0), -1), "", api.ErrRange},
		{made(n(0, 0, 0, 0, 10), 0, 0), "", api.ErrRange},
		{made(n(0, 0, math.MinInt), math.MaxInt), "", api.ErrRange},
		{made(nil), "", api.ErrForm},
		{made(n(0)), "", api.ErrForm},
		{made(n(9, 9), 9), "", api.ErrForm},
		{made(n(9, 9, 9), 9, 9), "", api.ErrForm},
		{made(n(9, 9, 9, 9, 9), 9), "", api.ErrForm},
		{made(n(0, 0, 0, 0, 0, 0, 0), 0, 0, 0), "", api.ErrForm},
	} {
		if code, e := board.Code(c.b); code != c.code || e != c.e {
			t.Error(i, code, e)
		}
	}
}

// P1.9: texts that are the code of no board.
func TestReadForm(t *testing.T) {
	for _, code := range []string{
		"", "/", "//", "0", "0/", "0/1a", "0/1a/", "/0/1a/0", "0/1a/2/", "0/1a/2/1b", "0/1a/2/1b/", "0/1a/2/1b/2/",
		"0/1a/2/1b/2/1b/2", "0/1/2", "0/1a/2a", "0a/1a/2", "0/a/2", "0/a1/2", "0//2", "0/1a//1a/2",
		"0/1e/2", "0/1A/2", "0/1`/2", "8/1a/2", "0/8a/2", "0/1a/9", "0/1a/2/1b/8", "0/1a/2/1e/2", "0/1a/2/8a/2",
		"00/1a/2", "0/01a/2", "0/1a/02", "-0/1a/2", "+0/1a/2", "0/-1a/2", "0/1aa/2",
		" 0/1a/2", "0/1a/2 ", "0 /1a/2", "0/1a/2\n", "0-1a-2", "0|1a|2", "0/1a/2\x00", "0/1\u00e4/2", "\u0660/1a/2", "0/1a/\xff",
		strings.Repeat("0/1a/", 1000) + "0", strings.Repeat("/", 100000),
	} {
		if b, e := board.Read(code); e != api.ErrForm || len(b.Papers)+len(b.Flutes) > 0 {
			t.Errorf("%.40q: %v %d", code, b, e)
		}
	}
}

// P1.14: Read of the code of a board is the board, for all numbers of papers and flutes.
func TestReadOfCode(t *testing.T) {
	seen := map[string]bool{}
	try := func(papers []int, flutes ...int) {
		b := made(papers, flutes...)
		code, e := board.Code(b)
		back, f := board.Read(code)
		if e != api.OK || f != api.OK || !same(back, b) || seen[code] {
			t.Fatal(b, code, e, back, f)
		}
		seen[code] = true
	}
	for i := range 8 * 8 * 8 {
		for f := range 4 {
			try([]int{i / 64, i / 8 % 8, i % 8}, f)
			for g := range 4 {
				try([]int{i / 64, i / 8 % 8, i % 8, i * 5 % 8, i * 3 / 7 % 8}, f, g)
			}
		}
	}
}

// P1.14: what can be read is written as it was: a code with one byte changed, left out or added is read only if it is a code.
func TestCodeOfRead(t *testing.T) {
	read := 0
	try := func(text string) {
		b, e := board.Read(text)
		if e == api.OK {
			read++
			if code, f := board.Code(b); code != text || f != api.OK {
				t.Errorf("%q was read as %v, of which the code is %q", text, b, code)
			}
		} else if e != api.ErrForm || len(b.Papers)+len(b.Flutes) > 0 {
			t.Errorf("%q: %v %d", text, b, e)
		}
	}
	for _, code := range []string{"0/1a/2", "0/1a/2/1b/2"} {
		for at := range len(code) {
			try(code[:at] + code[at+1:])
			for c := range 256 {
				try(code[:at] + string([]byte{byte(c)}) + code[at+1:])
				try(code[:at] + string([]byte{byte(c)}) + code[at:])
				try(code + string([]byte{byte(c)}))
			}
		}
	}
	// Each of three or five numbers can be one of eight, each of one or two letters one of four, and each of two or four strokes just itself.
	if want := 3*8 + 4 + 2 + 5*8 + 2*4 + 4; read != want {
		t.Error(read, want)
	}
}
