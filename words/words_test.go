package words_test

import (
	"bytes"
	"cmp"
	"math"
	"slices"
	"testing"

	"caisson/api"
	"caisson/words"
)

var numbers32 = []uint32{0, 1, 2, 127, 128, 255, 256, 258, 65535, 65536, 16777215, 16777216, 305419896, 1<<31 - 1, 1 << 31, math.MaxUint32 - 1, math.MaxUint32}

func numbers64() []uint64 {
	numbers := []uint64{258, 0x0102030405060708, math.MaxUint64 - 1, math.MaxUint64}
	for k := range 64 {
		numbers = append(numbers, 1<<k, 1<<k-1, 1<<k+1)
	}
	return numbers
}

var samples = [][]byte{nil, {}, {0}, {1}, {255}, {0x0f, 0xf0}, {0xff, 0xff}, {1, 2, 3}, {0xaa, 0x55, 0}, bytes.Repeat([]byte{0x5c}, 100)}

// checkNew fails if b has spare capacity.
func checkNew(t *testing.T, b []byte) {
	t.Helper()
	if cap(b) != len(b) {
		t.Errorf("%x has %d bytes, but a capacity of %d", b, len(b), cap(b))
	}
}

// P1.1
func TestPut32(t *testing.T) {
	for v, want := range map[uint32][]byte{
		0:              {0, 0, 0, 0},
		1:              {0, 0, 0, 1},
		256:            {0, 0, 1, 0},
		305419896:      {0x12, 0x34, 0x56, 0x78},
		0x80000000:     {0x80, 0, 0, 0},
		math.MaxUint32: {255, 255, 255, 255},
	} {
		got := words.Put32(v)
		if !bytes.Equal(got, want) {
			t.Errorf("Put32(%d) = %x, want %x", v, got, want)
		}
		checkNew(t, got)
	}
}

// P1.1
func TestPut64(t *testing.T) {
	for v, want := range map[uint64][]byte{
		0:                  {0, 0, 0, 0, 0, 0, 0, 0},
		258:                {0, 0, 0, 0, 0, 0, 1, 2},
		1 << 32:            {0, 0, 0, 1, 0, 0, 0, 0},
		0x123456789abcdef0: {0x12, 0x34, 0x56, 0x78, 0x9a, 0xbc, 0xde, 0xf0},
		1 << 63:            {0x80, 0, 0, 0, 0, 0, 0, 0},
		math.MaxUint64:     {255, 255, 255, 255, 255, 255, 255, 255},
	} {
		got := words.Put64(v)
		if !bytes.Equal(got, want) {
			t.Errorf("Put64(%d) = %x, want %x", v, got, want)
		}
		checkNew(t, got)
	}
}

// P1.1, R4
func TestPutReturnsNewMemory(t *testing.T) {
	first32, first64 := words.Put32(7), words.Put64(7)
	clear(first32)
	clear(first64)
	if got := words.Put32(7); !bytes.Equal(got, []byte{0, 0, 0, 7}) {
		t.Errorf("a second Put32(7) = %x", got)
	}
	if got := words.Put64(7); !bytes.Equal(got, []byte{0, 0, 0, 0, 0, 0, 0, 7}) {
		t.Errorf("a second Put64(7) = %x", got)
	}
}

// P1.2
func TestGet32(t *testing.T) {
	for _, x := range []struct {
		b    []byte
		want uint32
	}{
		{[]byte{0, 0, 0, 0}, 0},
		{[]byte{0, 0, 1, 0}, 256},
		{[]byte{0x12, 0x34, 0x56, 0x78}, 305419896},
		{[]byte{0x80, 0, 0, 1}, 1<<31 + 1},
		{[]byte{255, 255, 255, 255}, math.MaxUint32},
	} {
		if got, e := words.Get32(x.b); got != x.want || e != api.OK {
			t.Errorf("Get32(%x) = %d, %d, want %d", x.b, got, e, x.want)
		}
	}
}

// P1.2
func TestGet64(t *testing.T) {
	for _, x := range []struct {
		b    []byte
		want uint64
	}{
		{[]byte{0, 0, 0, 0, 0, 0, 0, 0}, 0},
		{[]byte{0, 0, 0, 0, 0, 0, 1, 2}, 258},
		{[]byte{0x12, 0x34, 0x56, 0x78, 0x9a, 0xbc, 0xde, 0xf0}, 0x123456789abcdef0},
		{[]byte{0x80, 0, 0, 0, 0, 0, 0, 1}, 1<<63 + 1},
		{[]byte{255, 255, 255, 255, 255, 255, 255, 255}, math.MaxUint64},
	} {
		if got, e := words.Get64(x.b); got != x.want || e != api.OK {
			t.Errorf("Get64(%x) = %d, %d, want %d", x.b, got, e, x.want)
		}
	}
}

func lengthError(size, want int) api.Errno {
	if size < want {
		return api.ErrShort
	}
	if size > want {
		return api.ErrForm
	}
	return api.OK
}

// P1.2, R3: with an error the number is 0, whatever the bytes are.
func TestGetLengths(t *testing.T) {
	for size := range 20 {
		b := bytes.Repeat([]byte{0xff}, size)
		want := lengthError(size, 4)
		if v, e := words.Get32(b); e != want || e != api.OK && v != 0 {
			t.Errorf("Get32 of %d bytes = %d, %d, want the error %d", size, v, e, want)
		}
		want = lengthError(size, 8)
		if v, e := words.Get64(b); e != want || e != api.OK && v != 0 {
			t.Errorf("Get64 of %d bytes = %d, %d, want the error %d", size, v, e, want)
		}
		if !bytes.Equal(b, bytes.Repeat([]byte{0xff}, size)) {
			t.Errorf("%d bytes were modified: %x", size, b)
		}
	}
	if v, e := words.Get32(nil); v != 0 || e != api.ErrShort {
		t.Errorf("Get32(nil) = %d, %d", v, e)
	}
	if v, e := words.Get64(nil); v != 0 || e != api.ErrShort {
		t.Errorf("Get64(nil) = %d, %d", v, e)
	}
}

// P1.3
func TestRot(t *testing.T) {
	for _, x := range []struct {
		v    uint32
		n    int
		want uint32
	}{
		{1, 0, 1},
		{1, 1, 2},
		{1, 31, 0x80000000},
		{1, 32, 1},
		{1, 33, 2},
		{0x80000000, 1, 1},
		{0xf0000000, 2, 0xc0000003},
		{0x12345678, 4, 0x23456781},
		{5, 64, 5},
		{1, -1, 0x80000000},
		{0x12345678, -4, 0x81234567},
		{0x12345678, -32, 0x12345678},
		{0x12345678, -36, 0x81234567},
		{0, 13, 0},
		{math.MaxUint32, -13, math.MaxUint32},
		{7, math.MinInt, 7},
		{7, math.MinInt + 1, 14},
		{1, math.MaxInt, 0x80000000},
	} {
		if got := words.Rot(x.v, x.n); got != x.want {
			t.Errorf("Rot(%x, %d) = %x, want %x", x.v, x.n, got, x.want)
		}
	}
}

// P1.3: bit by bit, for all places around one turn in both directions.
func TestRotMovesEachBit(t *testing.T) {
	for n := -70; n <= 70; n++ {
		for bit := range 32 {
			to := ((bit+n)%32 + 32) % 32
			if got := words.Rot(1<<bit, n); got != 1<<to {
				t.Errorf("Rot(1<<%d, %d) = %x, want 1<<%d", bit, n, got, to)
			}
		}
	}
}

// P1.4
func TestJoin(t *testing.T) {
	for _, x := range []struct {
		parts [][]byte
		want  []byte
	}{
		{nil, nil},
		{[][]byte{nil}, nil},
		{[][]byte{nil, {}, nil}, nil},
		{[][]byte{{1}}, []byte{1}},
		{[][]byte{{1}, nil, {2, 3}}, []byte{1, 2, 3}},
		{[][]byte{{}, {1, 2}, {}, {3}, {}}, []byte{1, 2, 3}},
		{[][]byte{{2}, {1}, {2}}, []byte{2, 1, 2}},
	} {
		got := words.Join(x.parts...)
		if !bytes.Equal(got, x.want) {
			t.Errorf("Join(%x) = %x, want %x", x.parts, got, x.want)
		}
		checkNew(t, got)
	}
}

// P1.4, R4
func TestJoinReturnsNewMemory(t *testing.T) {
	spare := append(make([]byte, 0, 16), 1, 2)
	other := []byte{3}
	for _, got := range [][]byte{words.Join(spare), words.Join(spare, other), words.Join(nil, spare), words.Join(spare, nil)} {
		checkNew(t, got)
		for i := range got {
			got[i] = 9
		}
	}
	if !bytes.Equal(spare[:3], []byte{1, 2, 0}) || !bytes.Equal(other, []byte{3}) {
		t.Errorf("the parts were modified: %x, %x", spare[:3], other)
	}
}

// P1.5
func TestXor(t *testing.T) {
	for _, x := range []struct {
		a, b, want []byte
		e          api.Errno
	}{
		{nil, nil, nil, api.OK},
		{nil, []byte{}, nil, api.OK},
		{[]byte{0x0f, 0xf0}, []byte{0xff, 0xff}, []byte{0xf0, 0x0f}, api.OK},
		{[]byte{1, 2, 3}, []byte{1, 2, 3}, []byte{0, 0, 0}, api.OK},
		{[]byte{1, 2, 3}, []byte{0, 0, 0}, []byte{1, 2, 3}, api.OK},
		{[]byte{1}, nil, nil, api.ErrShort},
		{[]byte{1, 2, 3}, []byte{1, 2}, nil, api.ErrShort},
		{nil, []byte{1}, nil, api.ErrForm},
		{[]byte{1, 2}, []byte{1, 2, 3}, nil, api.ErrForm},
	} {
		got, e := words.Xor(x.a, x.b)
		if !bytes.Equal(got, x.want) || e != x.e {
			t.Errorf("Xor(%x, %x) = %x, %d, want %x, %d", x.a, x.b, got, e, x.want, x.e)
		}
		checkNew(t, got)
	}
}

// P1.5, R4
func TestXorReturnsNewMemory(t *testing.T) {
	a, b := []byte{1, 2}, []byte{0, 0}
	for _, pair := range [][2][]byte{{a, b}, {b, a}, {a, a}} {
		got, _ := words.Xor(pair[0], pair[1])
		for i := range got {
			got[i] = 9
		}
	}
	if !bytes.Equal(a, []byte{1, 2}) || !bytes.Equal(b, []byte{0, 0}) {
		t.Errorf("the arguments were modified: %x, %x", a, b)
	}
}

// P1.6
func TestGetInvertsPut(t *testing.T) {
	for _, v := range numbers32 {
		if got, e := words.Get32(words.Put32(v)); got != v || e != api.OK {
			t.Errorf("Get32(Put32(%d)) = %d, %d", v, got, e)
		}
	}
	for _, v := range numbers64() {
		if got, e := words.Get64(words.Put64(v)); got != v || e != api.OK {
			t.Errorf("Get64(Put64(%d)) = %d, %d", v, got, e)
		}
	}
}

// P1.6
func TestOrderOfBytesIsOrderOfNumbers(t *testing.T) {
	for _, v := range numbers32 {
		for _, w := range numbers32 {
			if bytes.Compare(words.Put32(v), words.Put32(w)) != cmp.Compare(v, w) {
				t.Errorf("the bytes of %d and %d are in another order", v, w)
			}
		}
	}
	for _, v := range numbers64() {
		for _, w := range numbers64() {
			if bytes.Compare(words.Put64(v), words.Put64(w)) != cmp.Compare(v, w) {
				t.Errorf("the bytes of %d and %d are in another order", v, w)
			}
		}
	}
}

// P1.6
func TestPut64JoinsHalves(t *testing.T) {
	for _, v := range numbers64() {
		halves := words.Join(words.Put32(uint32(v>>32)), words.Put32(uint32(v)))
		if got := words.Put64(v); !bytes.Equal(got, halves) {
			t.Errorf("Put64(%d) = %x, its halves are %x", v, got, halves)
		}
	}
}

// P1.6
func TestRotationsAdd(t *testing.T) {
	places := []int{-1000, -33, -32, -31, -1, 0, 1, 7, 31, 32, 33, 64, 1000}
	for _, v := range numbers32 {
		if words.Rot(v, 32) != v {
			t.Errorf("Rot(%x, 32) = %x", v, words.Rot(v, 32))
		}
		for _, m := range places {
			for _, n := range places {
				if got, want := words.Rot(words.Rot(v, m), n), words.Rot(v, m+n); got != want {
					t.Errorf("%x rotated by %d and %d is %x, by the sum %x", v, m, n, got, want)
				}
			}
		}
	}
	if got := words.Rot(words.Rot(0x12345678, math.MaxInt), math.MinInt); got != words.Rot(0x12345678, -1) {
		t.Errorf("rotated by the greatest and the least int: %x", got)
	}
}

func xor(t *testing.T, a, b []byte) []byte {
	t.Helper()
	x, e := words.Xor(a, b)
	if e != api.OK {
		t.Fatalf("Xor(%x, %x): error %d", a, b, e)
	}
	return x
}

// P1.6
func TestXorIsCommutativeAssociativeAndInvertsItself(t *testing.T) {
	for _, a := range samples {
		b, c := slices.Clone(a), slices.Clone(a)
		for i := range a {
			b[i], c[i] = byte(i*37+11), ^a[i]/3
		}
		if !bytes.Equal(xor(t, a, b), xor(t, b, a)) {
			t.Errorf("Xor of %x and %x depends on their order", a, b)
		}
		if !bytes.Equal(xor(t, xor(t, a, b), c), xor(t, a, xor(t, b, c))) {
			t.Errorf("Xor of %x, %x and %x depends on the brackets", a, b, c)
		}
		if !bytes.Equal(xor(t, a, xor(t, a, b)), b) {
			t.Errorf("Xor of %x and Xor of it and %x is not the latter", a, b)
		}
	}
}
