package programs_test

import (
	"math"
	"slices"
	"testing"

	"caisson/api"
	"caisson/programs"
)

// MaxData is a constant of the package.
func TestMaxData(t *testing.T) {
	t.Parallel()
	if programs.MaxData != 64 {
		t.Errorf("MaxData = %d", programs.MaxData)
	}
}

// The list of the chapter's examples.
func first() [][]api.Op {
	return list(program(read(3), write(1, []byte{0x00, 0xff})), program(flush()))
}

// P23.2, P23.4, P23.5: the chapter's examples.
func TestExamples(t *testing.T) {
	t.Parallel()
	for _, x := range []struct {
		op   api.Op
		want bool
	}{{read(3), false}, {read(4), true}, {write(0, data(31)), true}, {op(3, -1), false}, {op(0, 0), true}} {
		if got := programs.Bad(x.op, 4); got != x.want {
			t.Errorf("Bad(%v, 4) = %t", x.op, got)
		}
	}
	for _, x := range []struct {
		list [][]api.Op
		want string
	}{
		{first(), lines("client", "read 3", "write 1 00ff", "client", "flush")},
		{alone(op(3, 7), write(0, nil), op(1, 1, 0x0a)), lines("client", "op 3 7 -", "write 0 -", "op 1 1 0a")},
	} {
		if s, e := programs.Text(x.list); s != x.want || e != api.OK {
			t.Errorf("Text(%v) = %q, error %d, want %q", x.list, s, e, x.want)
		}
	}
	checkFault(t, "client\nread 3", 2, api.ErrForm)
	checkFault(t, "client\nop 1 3 -\n", 2, api.ErrForm)
	checkFault(t, "read 3\n", 1, api.ErrForm)
	checkFault(t, "client\nread 03\n", 2, api.ErrForm)
	reads, writes, flushes, others := programs.Count(first())
	if reads != 1 || writes != 1 || flushes != 1 || others != 0 {
		t.Errorf("Count = %d, %d, %d, %d", reads, writes, flushes, others)
	}
	if got := programs.Touched(first(), 4); !slices.Equal(got, []int{3}) {
		t.Errorf("Touched(4) = %v", got)
	}
	if got := programs.Touched(first(), 2); len(got) > 0 {
		t.Errorf("Touched(2) = %v", got)
	}
}

// P23.1: lists of all numbers of programs around MaxClients, nil, empty and full ones.
func TestCheckOfPrograms(t *testing.T) {
	t.Parallel()
	checkAll(t, nil)
	checkAll(t, [][]api.Op{})
	for n := range 12 {
		for _, p := range [][]api.Op{nil, {}, {read(1)}, times(64, write(1, data(64)))} {
			l := slices.Repeat([][]api.Op{p}, n)
			checkAll(t, l)
			if e := programs.Check(l); (e == api.OK) != (n <= 8) || n > 8 && e != api.ErrLimit {
				t.Errorf("Check of %d programs of %d operations = %d", n, len(p), e)
			}
		}
	}
	for _, n := range []int{100, 256, 65536, 1 << 20} {
		if e := programs.Check(make([][]api.Op, n)); e != api.ErrLimit {
			t.Errorf("Check of %d programs = %d", n, e)
		}
	}
}

// P23.1: programs of all lengths around MaxOps, in each place of a list.
func TestCheckOfOperations(t *testing.T) {
	t.Parallel()
	for _, n := range []int{0, 1, 2, 62, 63, 64, 65, 66, 127, 128, 129, 1000} {
		for at := range 8 {
			l := make([][]api.Op, 8)
			l[at] = times(n, read(n))
			checkAll(t, l)
			if e := programs.Check(l); (e == api.OK) != (n <= 64) || n > 64 && e != api.ErrLimit {
				t.Errorf("Check of %d operations at %d = %d", n, at, e)
			}
		}
	}
	// Together there may be more than MaxOps of them.
	checkAll(t, slices.Repeat([][]api.Op{times(64, flush())}, 8))
	if e := programs.Check(alone(times(1<<20, flush())...)); e != api.ErrLimit {
		t.Errorf("Check of 2^20 operations = %d", e)
	}
}

// P23.1: data of all lengths around MaxData, of operations of all kinds, in each place of a program.
func TestCheckOfData(t *testing.T) {
	t.Parallel()
	for n := range 70 {
		for _, kind := range kinds() {
			l := alone(op(kind, 1, data(n)...))
			checkAll(t, l)
			if e := programs.Check(l); (e == api.OK) != (n <= 64) || n > 64 && e != api.ErrLimit {
				t.Errorf("Check with %d bytes of data = %d", n, e)
			}
		}
	}
	for i := range 8 {
		for j := range 64 {
			l := slices.Repeat([][]api.Op{nil}, 8)
			l[i] = times(64, write(0, data(64)))
			if e := programs.Check(l); e != api.OK {
				t.Fatalf("Check = %d", e)
			}
			l[i][j].Data = data(65)
			if e := programs.Check(l); e != api.ErrLimit {
				t.Fatalf("Check with 65 bytes at %d, %d = %d", i, j, e)
			}
		}
	}
	for _, n := range []int{128, 256, 320, 65536, 1 << 24} {
		if e := programs.Check(alone(op(9, 0, make([]byte, n)...))); e != api.ErrLimit {
			t.Errorf("Check with %d bytes = %d", n, e)
		}
	}
}

// P23.1: neither kinds nor indices matter.
func TestCheckOfKinds(t *testing.T) {
	t.Parallel()
	for kind := range 256 {
		for _, i := range indices() {
			if e := programs.Check(alone(op(uint8(kind), i))); e != api.OK {
				t.Errorf("Check of kind %d, index %d = %d", kind, i, e)
			}
		}
	}
}

// P23.2: operations of all kinds, with all indices and lengths of data, for all numbers of blocks.
func TestBad(t *testing.T) {
	t.Parallel()
	for kind := range 256 {
		for _, n := range volumes() {
			for _, i := range append(indices(), n-1, n, n+1, -n) {
				for _, size := range []int{0, 1, 31, 32, 33, 64, 65, 288} {
					o := op(uint8(kind), i, data(size)...)
					if got := programs.Bad(o, n); got != isBad(o, n) {
						t.Fatalf("Bad(kind %d, index %d, %d bytes, %d) = %t", kind, i, size, n, got)
					}
				}
			}
		}
	}
}

// P23.2: what Bad tells is written out for the operations.
func TestBadOfEachKind(t *testing.T) {
	t.Parallel()
	for _, x := range []struct {
		op     api.Op
		blocks int
		want   bool
	}{
		{read(0), 1, false},
		{read(1), 1, true},
		{read(-1), 1, true},
		{read(0), 0, true},
		{read(-1), 0, true},
		{read(-1), -1, true},
		{read(-2), -1, true},
		{read(math.MinInt), math.MinInt, true},
		{read(math.MinInt), math.MaxInt, true},
		{read(math.MaxInt - 1), math.MaxInt, false},
		{read(math.MaxInt), math.MaxInt, true},
		{op(1, 0, 7), 1, false},
		{op(1, 0, data(32)...), 1, false},
		{op(1, 1, data(32)...), 1, true},
		{write(0, data(32)), 1, false},
		{write(0, data(33)), 1, true},
		{write(0, nil), 1, true},
		{write(1, data(32)), 1, true},
		{write(3, data(32)), 4, false},
		{write(4, data(32)), 4, true},
		{write(-1, data(32)), 4, true},
		{write(math.MaxInt-1, data(32)), math.MaxInt, false},
		{flush(), 4, false},
		{flush(), 0, false},
		{flush(), math.MinInt, false},
		{op(3, math.MaxInt, data(65)...), -1, false},
		{op(0, 0, data(32)...), 1, true},
		{op(4, 0, data(32)...), 1, true},
		{op(255, 0, data(32)...), 1, true},
		{op(129, 0), 1, true},
		{op(130, 0, data(32)...), 1, true},
		{op(131, 0), 1, true},
	} {
		if got := programs.Bad(x.op, x.blocks); got != x.want {
			t.Errorf("Bad(%v, %d) = %t", x.op, x.blocks, got)
		}
	}
}

// P23.2: Count of operations of each kind, and of drawn numbers of them.
func TestCount(t *testing.T) {
	t.Parallel()
	for kind := range 256 {
		want := wantCount(alone(op(uint8(kind), 0)))
		for _, o := range []api.Op{op(uint8(kind), 0), op(uint8(kind), -1, data(65)...)} {
			reads, writes, flushes, others := programs.Count(alone(o))
			if got := [4]int{reads, writes, flushes, others}; got != want {
				t.Errorf("Count(%v) = %v", o, got)
			}
		}
	}
	r := drawer(1)
	for range 300 {
		n := [4]int{r.IntN(100), r.IntN(100), r.IntN(100), r.IntN(100)}
		all := slices.Concat(times(n[0], read(9)), times(n[1], write(9, nil)), times(n[2], flush()), times(n[3], op(uint8(4+r.IntN(252)), 0)))
		r.Shuffle(len(all), func(i, j int) { all[i], all[j] = all[j], all[i] })
		var l [][]api.Op
		for len(all) > 0 {
			size := r.IntN(len(all) + 1)
			l, all = append(l, all[:size]), all[size:]
		}
		reads, writes, flushes, others := programs.Count(l)
		if got := [4]int{reads, writes, flushes, others}; got != n {
			t.Fatalf("Count = %v, want %v", got, n)
		}
	}
}

// P23.2: what Touched returns is ascending, has each index once, and no block of operations that are bad.
func TestTouched(t *testing.T) {
	t.Parallel()
	b := data(32)
	for _, x := range []struct {
		list   [][]api.Op
		blocks int
		want   []int
	}{
		{nil, 4, nil},
		{list(nil, program(), nil), 4, nil},
		{alone(read(3), read(0), read(2)), 4, []int{0, 2, 3}},
		{alone(read(3), read(3), write(3, b)), 4, []int{3}},
		{list(program(read(2)), program(write(1, b)), program(read(2), write(0, b))), 3, []int{0, 1, 2}},
		{alone(read(-1), read(4), write(4, b), write(1, data(31)), write(2, nil), read(3)), 4, []int{3}},
		{alone(flush(), op(3, 1), op(3, 2, b...)), 4, nil},
		{alone(op(0, 1, b...), op(4, 2, b...), op(255, 3, b...)), 4, nil},
		{alone(op(1, 2, data(65)...)), 4, []int{2}},
		{alone(read(0), write(0, b)), 0, nil},
		{alone(read(0), read(-1), write(-2, b)), -1, nil},
		{alone(read(math.MaxInt), read(math.MaxInt-1), write(0, b)), math.MaxInt, []int{0, math.MaxInt - 1}},
	} {
		if got := programs.Touched(x.list, x.blocks); !slices.Equal(got, x.want) {
			t.Errorf("Touched(%v, %d) = %v, want %v", x.list, x.blocks, got, x.want)
		}
		checkTouched(t, x.list, x.blocks)
	}
}

// P23.2: Touched of drawn orders of indices, some of them several times.
func TestTouchedOfOrders(t *testing.T) {
	t.Parallel()
	r := drawer(2)
	for range 300 {
		l := make([][]api.Op, 1+r.IntN(12))
		for range r.IntN(400) {
			p := &l[r.IntN(len(l))]
			*p = append(*p, pick(r, []api.Op{read(r.IntN(60) - 5), write(r.IntN(60)-5, data(31+r.IntN(2))), flush()}))
		}
		checkTouched(t, l, r.IntN(60))
	}
}

// P23.2: Count and Touched accept lists that are not valid, great ones too.
func TestListsThatAreNotValid(t *testing.T) {
	t.Parallel()
	great := slices.Repeat([][]api.Op{times(300, read(5)), times(70, write(6, data(32))), times(65, flush()), times(100, op(9, 5, data(100)...))}, 300)
	reads, writes, flushes, others := programs.Count(great)
	if got := [4]int{reads, writes, flushes, others}; got != [4]int{90000, 21000, 19500, 30000} {
		t.Errorf("Count = %v", got)
	}
	if got := programs.Touched(great, 7); !slices.Equal(got, []int{5, 6}) {
		t.Errorf("Touched = %v", got)
	}
	if !programs.Same(great, copied(great)) {
		t.Error("Same = false")
	}
	if s, e := programs.Text(great); s != "" || e != api.ErrLimit {
		t.Errorf("Text = %.100q, error %d", s, e)
	}
}

// P23.3: nil and empty slices are equal, wherever they stand.
func TestSameOfEmpty(t *testing.T) {
	t.Parallel()
	for _, equal := range [][][][]api.Op{
		{nil, {}},
		{{nil}, {{}}},
		{{nil, nil}, {{}, nil}, {nil, {}}, {{}, {}}},
		{alone(read(1)), alone(op(1, 1)), alone(api.Op{Kind: 1, Index: 1, Data: []byte{}})},
		{list(nil, program(write(1, nil))), list(program(), program(write(1, []byte{})))},
	} {
		for _, a := range equal {
			for _, b := range equal {
				if !programs.Same(a, b) {
					t.Errorf("Same(%v, %v) = false", a, b)
				}
			}
		}
	}
}

// different returns lists, no two of which are equal.
func different() [][][]api.Op {
	return [][][]api.Op{
		nil,
		list(nil),
		list(nil, nil),
		make([][]api.Op, 9),
		alone(read(0)),
		alone(read(1)),
		alone(read(-1)),
		alone(read(1 << 32)),
		alone(read(math.MinInt)),
		alone(op(0, 0)),
		alone(op(2, 0)),
		alone(op(3, 0)),
		alone(op(255, 0)),
		alone(op(1, 0, 0)),
		alone(op(1, 0, 0, 0)),
		alone(op(1, 0, 1)),
		alone(op(1, 0, 1, 0)),
		alone(op(1, 0, 0, 1)),
		alone(op(1, 0, data(65)...)),
		alone(op(1, 0, data(66)...)),
		alone(read(0), read(0)),
		alone(read(0), read(1)),
		alone(read(1), read(0)),
		list(program(read(0)), nil),
		list(nil, program(read(0))),
		list(program(read(0)), program(read(1))),
		list(program(read(1)), program(read(0))),
		list(program(read(0)), program(read(0))),
		list(program(read(0), read(1)), nil),
		list(nil, program(read(0), read(1))),
		alone(times(65, read(0))...),
		alone(times(66, read(0))...),
	}
}

// P23.3: each two of these lists are different.
func TestSame(t *testing.T) {
	t.Parallel()
	for i, a := range different() {
		for j, b := range different() {
			if got := programs.Same(a, b); got != (i == j) {
				t.Errorf("Same(%v, %v) = %t", a, b, got)
			}
		}
	}
}

// P23.3: a difference in each field of each operation is seen.
func TestSameOfEachField(t *testing.T) {
	t.Parallel()
	r := drawer(3)
	for range 20 {
		l := drawnList(r, 5, 6)
		for i, p := range l {
			for j, o := range p {
				for at := range 4 + len(o.Data) {
					changed := copied(l)
					change(&changed[i][j], at)
					before := copied(changed)
					if programs.Same(l, changed) || programs.Same(changed, l) {
						t.Fatalf("Same(%v, %v) = true", l, changed)
					}
					if !programs.Same(changed, before) || !equal(changed, before) {
						t.Fatalf("Same(%v, a copy) = false, or it is changed", before)
					}
				}
			}
		}
	}
}

// change changes a field of an operation: its kind, its index, the number of its bytes, or one of them.
func change(o *api.Op, at int) {
	switch at {
	case 0:
		o.Kind++
	case 1:
		o.Index ^= 1
	case 2:
		o.Index ^= -1 << 63
	case 3:
		o.Data = append(o.Data, 0)
	default:
		o.Data[at-4] ^= 1 << (at % 8)
	}
}
