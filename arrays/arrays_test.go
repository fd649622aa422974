package arrays_test

import (
	"math"
	"slices"
	"testing"

	"caisson/api"
	"caisson/arrays"
)

// The chapter's examples.
func TestExamples(t *testing.T) {
	a, e := arrays.New(2)
	x, y := block(name(1)), block(name(2))
	written, f := arrays.Write(a, 1, x)
	if b, g := arrays.Read(written, 1); b != x || e != api.OK || f != api.OK || g != api.OK {
		t.Errorf("New, Write, Read: %x, errors %d, %d, %d", b, e, f, g)
	}
	crashed, e := arrays.Crash(written)
	if b, f := arrays.Read(crashed, 1); b != (api.Block{}) || e != api.OK || f != api.OK {
		t.Errorf("Write, Crash, Read: %x, errors %d, %d", b, e, f)
	}
	flushed, e := arrays.Flush(written)
	again, f := arrays.Write(flushed, 1, y)
	crashed, g := arrays.Crash(again)
	if b, h := arrays.Read(crashed, 1); b != x || e != api.OK || f != api.OK || g != api.OK || h != api.OK {
		t.Errorf("Write, Flush, Write, Crash, Read: %x, errors %d, %d, %d, %d", b, e, f, g, h)
	}
	for _, c := range []struct {
		op   api.Op
		want api.Errno
	}{
		{api.Op{Kind: api.Read, Index: 2}, api.ErrArg},
		{api.Op{Kind: api.Write, Index: 0, Data: x[:31]}, api.ErrArg},
		{api.Op{Kind: api.Flush, Index: 9}, api.OK},
	} {
		if next, r, e := arrays.Do(a, c.op); !arrays.Same(next, a) || r != (arrays.Result{Err: c.want}) || e != api.OK {
			t.Errorf("Do(%+v): %+v, error %d", c.op, r, e)
		}
	}
	if b, e := arrays.Read(a, -1); b != (api.Block{}) || e != api.ErrArg {
		t.Errorf("Read(a, -1): %x, %d", b, e)
	}
	none, e := arrays.New(0)
	checkNoArray(t, "New(0)", none, e, api.ErrArg)
	if l, e := arrays.Differ(a, written); !slices.Equal(l, []int{1}) || e != api.OK {
		t.Errorf("Differ: %v, %d", l, e)
	}
}

// P21.1: New of all numbers of blocks, and of bad ones.
func TestNew(t *testing.T) {
	for n := 1; n <= api.MaxBlocks; n++ {
		a, e := arrays.New(n)
		checkArray(t, "New", a, e, zeroModel(n))
		// What was overwritten is not in the next one.
		if n < 20 || slices.Contains(sizes, n) {
			a, e = arrays.New(n)
			checkArray(t, "New", a, e, zeroModel(n))
		}
	}
	for _, n := range badCounts {
		a, e := arrays.New(n)
		checkNoArray(t, "New", a, e, api.ErrArg)
	}
}

// P21.1: Check of Now and Durable of all these lengths.
func TestCheck(t *testing.T) {
	counts := []int{0, 1, 2, 3, 4, 5, 6, 255, 256, 1024, 4094, 4095, 4096, 4097, 4098, 5000, 8192}
	room := make([]api.Block, 8192)
	for _, now := range counts {
		for _, durable := range counts {
			want := api.ErrArg
			if now == durable && 1 <= now && now <= 4096 {
				want = api.OK
			}
			// The room behind the blocks is not a part of the array.
			if e := arrays.Check(arrays.Array{Now: room[:now], Durable: room[:durable]}); e != want {
				t.Errorf("Check of %d and %d blocks: %d, want %d", now, durable, e, want)
			}
		}
	}
	for _, a := range []arrays.Array{{}, {Now: []api.Block{}}, {Durable: []api.Block{}}, {Now: make([]api.Block, 1)}, {Durable: make([]api.Block, 1)}} {
		if e := arrays.Check(a); e != api.ErrArg {
			t.Errorf("Check of %d and %d blocks: %d, want ErrArg", len(a.Now), len(a.Durable), e)
		}
	}
	for n := 1; n <= api.MaxBlocks; n++ {
		if e := arrays.Check(arrays.Array{Now: room[:n], Durable: room[n : 2*n]}); e != api.OK {
			t.Fatalf("Check of %d blocks: %d", n, e)
		}
	}
}

// dataOf are the data that operations have in the tests.
func dataOf() [][]byte {
	b := []byte(name(1) + name(2) + name(3))
	return [][]byte{nil, {}, b[:1], b[:31], b[:32], b[:33], b[:64], b, make([]byte, 32), make([]byte, 256+32), make([]byte, 1<<16+32)}
}

// P21.1: every kind, with indices inside and beyond, all data, and any number of blocks.
func TestBad(t *testing.T) {
	numbers := append([]int{1, 2, 5, 9, 100, 4096}, badCounts...)
	for _, n := range numbers {
		indices := []int{-2, -1, 0, 1, 4, 5, 4095, 4096, 4097, math.MinInt, math.MinInt + 1, math.MaxInt - 1, math.MaxInt}
		if n > math.MinInt && n < math.MaxInt {
			indices = append(indices, n-1, n, n+1)
		}
		for kind := range 256 {
			for _, i := range indices {
				for _, data := range dataOf() {
					op := api.Op{Kind: api.OpKind(kind), Index: i, Data: data}
					if arrays.Bad(n, op) != isBad(n, op) {
						t.Fatalf("Bad(%d, {%d, %d, %d bytes}) is not %v", n, kind, i, len(data), isBad(n, op))
					}
				}
			}
		}
	}
}

// P21.1: what is bad, written out.
func TestBadWrittenOut(t *testing.T) {
	data := func(size int) []byte { return make([]byte, size) }
	for _, c := range []struct {
		n    int
		op   api.Op
		want bool
	}{
		{1, api.Op{Kind: 1}, false}, {1, api.Op{Kind: 1, Index: 1}, true}, {1, api.Op{Kind: 1, Index: -1}, true}, {0, api.Op{Kind: 1}, true},
		{5, api.Op{Kind: 1, Index: 4, Data: data(7)}, false}, {-3, api.Op{Kind: 1, Index: -4}, true}, {4097, api.Op{Kind: 1, Index: 4096}, false},
		{5, api.Op{Kind: 2, Index: 4, Data: data(32)}, false}, {5, api.Op{Kind: 2, Index: 5, Data: data(32)}, true}, {5, api.Op{Kind: 2, Index: -1, Data: data(32)}, true},
		{5, api.Op{Kind: 2, Data: data(31)}, true}, {5, api.Op{Kind: 2, Data: data(33)}, true}, {5, api.Op{Kind: 2}, true}, {0, api.Op{Kind: 2, Data: data(32)}, true},
		{math.MaxInt, api.Op{Kind: 2, Index: math.MaxInt - 1, Data: data(32)}, false}, {math.MaxInt, api.Op{Kind: 2, Index: math.MaxInt, Data: data(32)}, true},
		{5, api.Op{Kind: 3}, false}, {5, api.Op{Kind: 3, Index: 9, Data: data(1)}, false}, {0, api.Op{Kind: 3, Index: -1}, false}, {math.MinInt, api.Op{Kind: 3}, false},
		{5, api.Op{}, true}, {5, api.Op{Data: data(32)}, true}, {5, api.Op{Kind: 4, Data: data(32)}, true}, {5, api.Op{Kind: 255}, true}, {5, api.Op{Kind: 128 + 3}, true},
	} {
		if arrays.Bad(c.n, c.op) != c.want {
			t.Errorf("Bad(%d, %+v) = %v", c.n, c.op, !c.want)
		}
	}
}

// indices returns all indices of a few blocks, and some of many.
func indices(n int) []int {
	if n > 300 {
		return edges(n)
	}
	l := make([]int, n)
	for i := range l {
		l[i] = i
	}
	return l
}

// P21.2
func TestRead(t *testing.T) {
	for _, n := range sizes {
		m := filled(n)
		g := give(m)
		for i := range n {
			if b, e := arrays.Read(g.Array, i); string(b[:]) != m.now[i] || e != api.OK {
				t.Fatalf("Read(%d) of %d blocks: %x, %d", i, n, b, e)
			}
		}
		for _, i := range beyond(n) {
			if b, e := arrays.Read(g.Array, i); b != (api.Block{}) || e != api.ErrArg {
				t.Fatalf("Read(%d) of %d blocks: %x, %d, want ErrArg", i, n, b, e)
			}
		}
		g.checkKept(t)
	}
}

// P21.2: a Write changes its block of Now alone; with what was there it changes nothing.
func TestWrite(t *testing.T) {
	for _, n := range sizes {
		m := filled(n)
		for _, i := range indices(n) {
			for _, b := range []string{name(50000), zero, m.now[i], m.durable[i]} {
				g := give(m)
				a, e := arrays.Write(g.Array, i, block(b))
				checkArray(t, "Write", a, e, m.write(i, b))
				g.checkKept(t)
			}
		}
		g := give(m)
		for _, i := range beyond(n) {
			a, e := arrays.Write(g.Array, i, block(name(50000)))
			checkNoArray(t, "Write", a, e, api.ErrArg)
		}
		g.checkKept(t)
	}
}

// P21.3
func TestFlushAndCrash(t *testing.T) {
	for n := 1; n <= api.MaxBlocks; n++ {
		if n > 40 && !slices.Contains(sizes, n) {
			continue
		}
		m := filled(n)
		for _, m := range []model{m, {m.durable, m.now}, m.flush(), zeroModel(n)} {
			g := give(m)
			a, e := arrays.Flush(g.Array)
			checkArray(t, "Flush", a, e, m.flush())
			g.checkKept(t)
			a, e = arrays.Crash(g.Array)
			checkArray(t, "Crash", a, e, m.crash())
			g.checkKept(t)
		}
	}
}

// P21.4: Do of every kind, with indices inside and beyond, and all data.
func TestDo(t *testing.T) {
	for _, n := range []int{1, 2, 5} {
		m := filled(n)
		for kind := range 256 {
			for _, i := range append(indices(n), beyond(n)...) {
				for _, data := range dataOf() {
					checkDo(t, m, api.Op{Kind: api.OpKind(kind), Index: i, Data: data})
				}
			}
		}
	}
	for _, n := range sizes {
		m := filled(n)
		for _, i := range append(edges(n), beyond(n)...) {
			for _, op := range []api.Op{read(i), write(i, name(50000)), write(i, zero), write(i, name(1)[1:]), {Kind: 3, Index: i}, {Index: i}, {Kind: 4, Index: i, Data: []byte(zero)}} {
				checkDo(t, m, op)
			}
		}
	}
}

// The operations on two blocks that the tests put into all orders; some of them are bad.
func few() []api.Op {
	return []api.Op{read(0), read(1), write(0, name(9)), write(0, name(10)), write(1, name(11)), flush(), read(2), write(1, name(12)+"x")}
}

// P21.3, P21.4: all sequences of operations and crashes on two blocks, one after another.
func TestSequences(t *testing.T) {
	var try func(a arrays.Array, m model, left int)
	try = func(a arrays.Array, m model, left int) {
		if left == 0 {
			return
		}
		for _, op := range few() {
			next, r, e := arrays.Do(a, op)
			if want, result := m.carry(op); e != api.OK || r != result || !holds(next.Now, want.now) || !holds(next.Durable, want.durable) {
				t.Fatalf("Do(%+v) of %q: %q, %+v, %d", op, m, next, r, e)
			} else {
				try(next, want, left-1)
			}
		}
		next, e := arrays.Crash(a)
		if want := m.crash(); e != api.OK || !holds(next.Now, want.now) || !holds(next.Durable, want.durable) {
			t.Fatalf("Crash of %q: %q, %d", m, next, e)
		} else {
			try(next, want, left-1)
		}
		if !are(a.Now, m.now) || !are(a.Durable, m.durable) {
			t.Fatalf("the array was changed to %q", a)
		}
	}
	a, _ := arrays.New(2)
	try(a, zeroModel(2), 5)
}

// P21.4: Play of all short lists of operations returns what Do returns for one after another.
func TestPlay(t *testing.T) {
	lists := [][]api.Op{nil}
	for from := 0; len(lists[from]) < 4; from++ {
		for _, op := range few() {
			lists = append(lists, append(slices.Clip(lists[from]), op))
		}
	}
	m := filled(2)
	for _, l := range lists {
		want := checkPlay(t, m, l)
		a, results := carried(t, m, l...)
		if !are(a.Now, want.now) || !are(a.Durable, want.durable) {
			t.Fatalf("Do of %+v, one after another: another array", l)
		}
		if _, got, e := arrays.Play(give(m).Array, l); !slices.Equal(got, results) || e != api.OK {
			t.Fatalf("Play(%+v): %+v, %d, and one after another %+v", l, got, e, results)
		}
	}
	checkPlay(t, m, []api.Op{})
}

// draw returns an operation on n blocks, or a bad one now and then.
func draw(below func(int) int, n int) api.Op {
	op := api.Op{Kind: api.OpKind(1 + below(3)), Index: below(n), Data: []byte(name(1 + below(50000)))}
	switch below(12) {
	case 0:
		op.Kind = api.OpKind(below(256))
	case 1:
		op.Index = beyond(n)[below(len(beyond(n)))]
	case 2:
		op.Data = op.Data[:below(32)]
	case 3:
		op.Data = append(op.Data, make([]byte, 1+below(40))...)
	}
	if op.Kind == api.Flush && below(4) > 0 {
		op.Kind = api.Write
	}
	return op
}

// P21.4: lists of all lengths up to MaxList, and of more; longer ones have no effect.
func TestLengthsOfLists(t *testing.T) {
	if api.MaxList != 256 {
		t.Fatalf("MaxList = %d", api.MaxList)
	}
	below := drawer(21)
	m := filled(5)
	var l []api.Op
	for len(l) < 300 {
		if len(l) <= 256 {
			checkPlay(t, m, l)
		} else {
			g := give(m)
			a, results, e := arrays.Play(g.Array, l)
			checkNoArray(t, "Play", a, e, api.ErrLimit)
			if len(results) != 0 {
				t.Fatalf("Play of %d operations returned %d results", len(l), len(results))
			}
			g.checkKept(t)
		}
		l = append(l, draw(below, 5))
	}
	for _, n := range sizes {
		m := filled(n)
		for range 3 {
			l = nil
			for range 256 {
				l = append(l, draw(below, n))
			}
			// What the list made of the array is where the next one begins.
			m = checkPlay(t, m, l)
		}
		for _, op := range []api.Op{read(0), write(n-1, name(3)), flush(), {}} {
			for _, size := range []int{1, 256, 257, 1000} {
				l = slices.Repeat([]api.Op{op}, size)
				if size <= 256 {
					checkPlay(t, m, l)
				} else if a, results, e := arrays.Play(give(m).Array, l); len(results) != 0 {
					t.Fatalf("Play of %d operations returned %d results", size, len(results))
				} else {
					checkNoArray(t, "Play", a, e, api.ErrLimit)
				}
			}
		}
	}
}

// checkDiffer checks what Differ returns of two models, in both orders.
func checkDiffer(t *testing.T, a, b model, want ...int) {
	t.Helper()
	for range 2 {
		x, y := give(a), give(b)
		l, e := arrays.Differ(x.Array, y.Array)
		if !slices.Equal(l, want) || cap(l) != len(l) || e != api.OK {
			t.Fatalf("Differ of %d blocks: %v with room for %d, %d, want %v", len(a.now), l, cap(l), e, want)
		}
		x.checkKept(t)
		y.checkKept(t)
		a, b = b, a
	}
}

// checkSame checks what Same returns of two arrays, in both orders.
func checkSame(t *testing.T, a, b given, want bool) {
	t.Helper()
	if arrays.Same(a.Array, b.Array) != want || arrays.Same(b.Array, a.Array) != want {
		t.Fatalf("Same of arrays with %d and %d, and %d and %d blocks is not %v", len(a.Now), len(a.Durable), len(b.Now), len(b.Durable), want)
	}
	a.checkKept(t)
	b.checkKept(t)
}

// P21.5: arrays that differ in no block, in one, in several and in all, in Now, in Durable and in both.
func TestDifferAndSame(t *testing.T) {
	below := drawer(5)
	for _, n := range sizes {
		m := filled(n)
		checkDiffer(t, m, m)
		checkSame(t, give(m), give(m), true)
		for _, i := range indices(n) {
			w := m.write(i, name(50000))
			checkDiffer(t, m, w, i)
			checkSame(t, give(m), give(w), false)
			d := model{m.now, w.now}
			checkDiffer(t, m.flush(), d)
			checkSame(t, give(m.flush()), give(d), false)
			checkDiffer(t, m.flush(), w.flush(), i)
			checkSame(t, give(m.flush()), give(w.flush()), false)
		}
		for range 20 {
			w, want := m, []int(nil)
			for i := range n {
				if below(3) == 0 && len(want) < 40 {
					w, want = w.write(i, name(40000+below(9999))), append(want, i)
				}
			}
			checkDiffer(t, m, w, want...)
			checkSame(t, give(m), give(w), len(want) == 0)
		}
		all := zeroModel(n)
		checkDiffer(t, m, all, indicesOf(n)...)
		checkSame(t, give(m), give(all), false)
		if n > 2 {
			checkSame(t, give(m), give(model{m.durable, m.now}), false)
		}
	}
}

// indicesOf returns all indices of n blocks.
func indicesOf(n int) []int {
	var l []int
	for i := range n {
		l = append(l, i)
	}
	return l
}

// P21.5: each bit of a block counts.
func TestBits(t *testing.T) {
	m := filled(3)
	for bit := range 256 {
		b := []byte(m.now[1])
		b[bit/8] ^= 1 << (bit % 8)
		w := m.write(1, string(b))
		checkDiffer(t, m, w, 1)
		checkSame(t, give(m), give(w), false)
		checkSame(t, give(m), give(model{m.now, w.now}), false)
	}
}

// P21.5: arrays with other numbers of blocks, valid and not; Same accepts them all.
func TestOtherNumbers(t *testing.T) {
	room := filled(4098).now
	counts := []int{0, 1, 2, 3, 5, 4095, 4096, 4097, 4098}
	for _, x := range counts {
		for _, y := range counts {
			a, b := lists(room[:x], room[:x]), lists(room[:y], room[:y])
			l, e := arrays.Differ(a.Array, b.Array)
			want := api.ErrArg
			if x == y && 1 <= x && x <= 4096 {
				want = api.OK
			}
			if len(l) != 0 || e != want {
				t.Fatalf("Differ of %d and %d blocks: %v, %d, want %d", x, y, l, e, want)
			}
			checkSame(t, a, b, x == y)
			checkSame(t, lists(room[:x], room[:y]), a, x == y)
			checkSame(t, lists(room[:x], room[:y]), b, x == y)
			checkSame(t, lists(room[:x], room[:y]), lists(room[:x], room[:y]), true)
			checkSame(t, lists(room[:x], room[:y]), lists(room[:y], room[:x]), x == y)
		}
	}
	if !arrays.Same(arrays.Array{}, arrays.Array{Now: []api.Block{}, Durable: []api.Block{}}) {
		t.Error("nil and empty lists are not the same")
	}
	if arrays.Same(arrays.Array{}, arrays.Array{Now: make([]api.Block, 1)}) || arrays.Same(arrays.Array{}, arrays.Array{Durable: make([]api.Block, 1)}) {
		t.Error("one zero block is the same as none")
	}
}
