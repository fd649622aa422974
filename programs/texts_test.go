package programs_test

import (
	"fmt"
	"math"
	"slices"
	"strings"
	"testing"

	"caisson/api"
	"caisson/programs"
)

// P23.4, P23.5, P23.6: lines are written out for operations of each form.
func TestLines(t *testing.T) {
	t.Parallel()
	full := "000102030405060708090a0b0c0d0e0f101112131415161718191a1b1c1d1e1f"
	counted := make([]byte, 32)
	for i := range counted {
		counted[i] = byte(i)
	}
	for _, x := range []struct {
		op   api.Op
		want string
	}{
		{read(0), "read 0"},
		{read(4095), "read 4095"},
		{read(-1), "read -1"},
		{read(math.MaxInt), "read 9223372036854775807"},
		{read(math.MinInt), "read -9223372036854775808"},
		{op(1, 0, 0), "op 1 0 00"},
		{op(1, -5, 0xde, 0xad), "op 1 -5 dead"},
		{write(0, nil), "write 0 -"},
		{write(-7, nil), "write -7 -"},
		{write(12, counted), "write 12 " + full},
		{write(math.MaxInt, append(counted, counted...)), "write 9223372036854775807 " + full + full},
		{write(math.MinInt, []byte{0x0f, 0xf0}), "write -9223372036854775808 0ff0"},
		{flush(), "flush"},
		{op(3, 1), "op 3 1 -"},
		{op(3, -1), "op 3 -1 -"},
		{op(3, 0, 0), "op 3 0 00"},
		{op(3, 10, 1), "op 3 10 01"},
		{op(0, 0), "op 0 0 -"},
		{op(0, 3, 0xab), "op 0 3 ab"},
		{op(4, 0), "op 4 0 -"},
		{op(10, 100, 0x89), "op 10 100 89"},
		{op(255, math.MinInt, 0xff), "op 255 -9223372036854775808 ff"},
	} {
		l, text := list(nil, program(x.op, flush()), nil), lines("client", "client", x.want, "flush", "client")
		if s, e := programs.Text(l); s != text || e != api.OK {
			t.Errorf("Text(%v) = %q, error %d", l, s, e)
		}
		back, line, e := programs.Parse(text)
		if !equal(back, l) || line != 0 || e != api.OK {
			t.Errorf("Parse(%q) = %v, line %d, error %d", text, back, line, e)
		}
		checkAll(t, l)
	}
}

// P23.4, P23.5: operations of all kinds and indices, with data of all lengths.
func TestTextOfOperations(t *testing.T) {
	t.Parallel()
	for kind := range 256 {
		for _, i := range indices() {
			var p []api.Op
			for _, n := range sizes() {
				p = append(p, op(uint8(kind), i, data(n)...))
			}
			s := checkText(t, alone(p...))
			checkParse(t, s)
		}
	}
}

// P23.4, P23.5: each byte that data can have, in each place of three.
func TestTextOfBytes(t *testing.T) {
	t.Parallel()
	for b := range 256 {
		var p []api.Op
		for at := range 3 {
			bytes := []byte{0x12, 0x34, 0x56}
			bytes[at] = byte(b)
			p = append(p, write(at, bytes), op(9, at, bytes...))
		}
		want := fmt.Sprintf("client\nwrite 0 %02x3456\nop 9 0 %02x3456\nwrite 1 12%02x56\nop 9 1 12%02x56\nwrite 2 1234%02x\nop 9 2 1234%02x\n", b, b, b, b, b, b)
		if s := checkText(t, alone(p...)); s != want {
			t.Fatalf("Text = %q, want %q", s, want)
		}
		checkParse(t, want)
	}
}

// P23.4, P23.6: the empty list has the empty text, and programs without operations a line each.
func TestTextOfNothing(t *testing.T) {
	t.Parallel()
	for n := range 9 {
		for _, l := range [][][]api.Op{make([][]api.Op, n), slices.Repeat([][]api.Op{{}}, n)} {
			want := strings.Repeat("client\n", n)
			if s := checkText(t, l); s != want {
				t.Errorf("Text of %d empty programs = %q", n, s)
			}
		}
		back, line, e := programs.Parse(strings.Repeat("client\n", n))
		if len(back) != n || line != 0 || e != api.OK || cap(back) != n {
			t.Errorf("Parse of %d empty programs: %d, room for %d, line %d, error %d", n, len(back), cap(back), line, e)
		}
		for i, p := range back {
			if len(p) != 0 || cap(p) != 0 {
				t.Errorf("Parse of %d empty programs: %d operations at %d", n, len(p), i)
			}
		}
	}
}

// P23.4: with an error there is no text, wherever the list is not valid.
func TestTextErrors(t *testing.T) {
	t.Parallel()
	for _, l := range [][][]api.Op{
		make([][]api.Op, 9),
		slices.Repeat([][]api.Op{{read(1)}}, 9),
		alone(times(65, read(1))...),
		list(program(read(1)), times(65, read(1))),
		alone(write(0, data(65))),
		list(program(read(1)), nil, program(flush(), write(0, data(65)))),
		append(make([][]api.Op, 7), append(times(63, flush()), op(9, 9, data(65)...))),
		alone(append(times(64, flush()), write(0, data(65)))...),
	} {
		if s, e := programs.Text(l); s != "" || e != api.ErrLimit {
			t.Errorf("Text(%.300v) = %.100q, error %d", l, s, e)
		}
		checkAll(t, l)
	}
}

// P23.4, P23.5, P23.6: the longest text that a valid list has.
func TestLongestText(t *testing.T) {
	t.Parallel()
	longest := slices.Repeat([][]api.Op{times(64, op(255, math.MinInt, data(64)...))}, 8)
	s := checkText(t, longest)
	if want := 8 * (7 + 64*(7+20+1+128+1)); len(s) != want {
		t.Errorf("%d bytes, want %d", len(s), want)
	}
	checkParse(t, s)
}

// P23.5: reading and writing are inverse to each other for drawn lists.
func TestDrawnLists(t *testing.T) {
	t.Parallel()
	r := drawer(4)
	for range 400 {
		checkAll(t, drawnList(r, 8, 8))
	}
	for range 20 {
		checkAll(t, drawnList(r, 10, 70))
	}
}

// P23.5: all texts of up to six of these lines.
func TestAllSequencesOfLines(t *testing.T) {
	t.Parallel()
	all := []string{"client", "read 0", "flush", "op 3 1 -", "write 0 -"}
	texts := []string{""}
	for range 6 {
		for _, s := range texts {
			checkParse(t, s)
		}
		var longer []string
		for _, s := range texts {
			for _, l := range all {
				longer = append(longer, s+l+"\n")
			}
		}
		texts = longer
	}
}
