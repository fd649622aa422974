package arrays_test

import (
	"bytes"
	"math"
	"slices"
	"testing"

	"caisson/api"
	"caisson/arrays"
)

// model is an array by the definitions: the bytes of each block, now and as a crash leaves them.
type model struct{ now, durable []string }

var zero = string(make([]byte, 32))

// name returns 32 bytes that are others for each number from 1 on; the last one and the first one are not zero.
func name(k int) string {
	b := bytes.Repeat([]byte{byte(k * 7), byte(k >> 8)}, 16)
	b[0], b[1], b[2], b[31] = 1, byte(k), byte(k>>8), 255
	return string(b)
}

func zeroModel(n int) model {
	return model{slices.Repeat([]string{zero}, n), slices.Repeat([]string{zero}, n)}
}

// filled returns a model whose blocks are all different, now and durable, except that every third one is durable as it is.
func filled(n int) model {
	m := zeroModel(n)
	for i := range n {
		m.now[i], m.durable[i] = name(2*i+1), name(2*i+2)
		if i%3 == 2 {
			m.durable[i] = m.now[i]
		}
	}
	return m
}

// has tells whether a number of blocks includes an index.
func has(n, i int) bool { return n > 0 && i >= 0 && i <= n-1 }

// isBad tells whether an operation is bad for n blocks.
func isBad(n int, op api.Op) bool {
	read := op.Kind == 1 && has(n, op.Index)
	write := op.Kind == 2 && has(n, op.Index) && len(op.Data) == 32
	return !read && !write && op.Kind != 3
}

func (m model) write(i int, b string) model {
	now := slices.Clone(m.now)
	now[i] = b
	return model{now, m.durable}
}

func (m model) flush() model { return model{m.now, m.now} }
func (m model) crash() model { return model{m.durable, m.durable} }

// carry returns what an operation makes of a model, and its result.
func (m model) carry(op api.Op) (model, arrays.Result) {
	switch {
	case isBad(len(m.now), op):
		return m, arrays.Result{Err: api.ErrArg}
	case op.Kind == 1:
		return m, arrays.Result{Value: block(m.now[op.Index])}
	case op.Kind == 2:
		return m.write(op.Index, string(op.Data)), arrays.Result{}
	}
	return m.flush(), arrays.Result{}
}

func block(b string) api.Block { return api.Block([]byte(b)) }

func blocks(l []string) []api.Block {
	made := make([]api.Block, 0, len(l))
	for _, b := range l {
		made = append(made, block(b))
	}
	return made
}

func read(i int) api.Op            { return api.Op{Kind: api.Read, Index: i} }
func write(i int, b string) api.Op { return api.Op{Kind: api.Write, Index: i, Data: []byte(b)} }
func flush() api.Op                { return api.Op{Kind: api.Flush} }

// given is an array that is passed to functions, with all the memory that it lies in: there is some before, between and behind its blocks.
type given struct {
	arrays.Array
	memory, before []api.Block
}

// lists returns an array with any two lists of blocks.
func lists(now, durable []string) given {
	guard := []string{name(60001)}
	memory := blocks(slices.Concat(guard, now, guard, durable, guard, guard))
	from := len(now) + 2
	a := arrays.Array{Now: memory[1 : 1+len(now)], Durable: memory[from : from+len(durable)]}
	return given{a, memory, slices.Clone(memory)}
}

func give(m model) given { return lists(m.now, m.durable) }

// checkKept checks that the memory of an argument is as it was.
func (g given) checkKept(t *testing.T) {
	t.Helper()
	if !slices.Equal(g.memory, g.before) {
		t.Fatal("an argument was changed, or shares memory with a result")
	}
}

// are tells whether blocks are the ones of a model.
func are(l []api.Block, want []string) bool {
	return slices.EqualFunc(l, want, func(x api.Block, b string) bool { return string(x[:]) == b })
}

// holds tells whether blocks that were returned are the ones of a model, without spare capacity.
func holds(l []api.Block, want []string) bool { return cap(l) == len(l) && are(l, want) }

// checkArray checks an array that was returned, and the memory that it has. It overwrites it, so that what shares memory with it is changed.
func checkArray(t *testing.T, call string, a arrays.Array, e api.Errno, want model) {
	t.Helper()
	if e != api.OK || !holds(a.Now, want.now) || !holds(a.Durable, want.durable) {
		t.Fatalf("%s: error %d, another array than the model, or spare capacity", call, e)
	}
	for i := range a.Now {
		a.Now[i] = block(name(60002))
	}
	if !holds(a.Durable, want.durable) {
		t.Fatalf("%s: Now and Durable share memory", call)
	}
	for i := range a.Durable {
		a.Durable[i] = block(name(60003))
	}
	if !slices.Equal(a.Now, slices.Repeat([]api.Block{block(name(60002))}, len(want.now))) {
		t.Fatalf("%s: Durable and Now share memory", call)
	}
}

// checkNoArray checks that a call returned an error, and no array.
func checkNoArray(t *testing.T, call string, a arrays.Array, e, want api.Errno) {
	t.Helper()
	if e != want || len(a.Now) != 0 || len(a.Durable) != 0 {
		t.Fatalf("%s: %d and %d blocks, error %d, want none and %d", call, len(a.Now), len(a.Durable), e, want)
	}
}

// checkDo checks what Do returns for an operation on a model, and returns the model behind it.
func checkDo(t *testing.T, m model, op api.Op) model {
	t.Helper()
	g, data := give(m), slices.Clone(op.Data)
	want, result := m.carry(op)
	a, r, e := arrays.Do(g.Array, op)
	if r != result {
		t.Fatalf("Do(%+v) of %d blocks returned %+v, want %+v", op, len(m.now), r, result)
	}
	checkArray(t, "Do", a, e, want)
	g.checkKept(t)
	if !bytes.Equal(op.Data, data) {
		t.Fatalf("Do(%+v) changed its data", op)
	}
	return want
}

// checkPlay checks what Play returns for operations on a model, and returns the model behind them.
func checkPlay(t *testing.T, m model, l []api.Op) model {
	t.Helper()
	g, want := give(m), m
	var results []arrays.Result
	var data [][]byte
	for _, op := range l {
		var r arrays.Result
		want, r = want.carry(op)
		results, data = append(results, r), append(data, slices.Clone(op.Data))
	}
	ops := slices.Clone(l)
	a, got, e := arrays.Play(g.Array, l)
	if !slices.Equal(got, results) || cap(got) != len(got) {
		t.Fatalf("Play(%+v) returned %+v with room for %d, want %+v", l, got, cap(got), results)
	}
	checkArray(t, "Play", a, e, want)
	g.checkKept(t)
	for i, op := range l {
		if op.Kind != ops[i].Kind || op.Index != ops[i].Index || !bytes.Equal(op.Data, data[i]) {
			t.Fatalf("Play changed operation %d", i)
		}
	}
	return want
}

// carried returns an array, and what operations made of it one after another.
func carried(t *testing.T, m model, l ...api.Op) (arrays.Array, []arrays.Result) {
	t.Helper()
	a, results := give(m).Array, []arrays.Result(nil)
	for _, op := range l {
		next, r, e := arrays.Do(a, op)
		if e != api.OK {
			t.Fatalf("Do(%+v): error %d", op, e)
		}
		a, results = next, append(results, r)
	}
	return a, results
}

// drawer returns a function whose results are always the same sequence of numbers without a visible rule.
func drawer(seed uint64) func(below int) int {
	return func(below int) int {
		seed += 0x9e3779b97f4a7c15
		z := (seed ^ seed>>30) * 0xbf58476d1ce4e5b9
		z = (z ^ z>>27) * 0x94d049bb133111eb
		return int((z ^ z>>31) >> 1 % uint64(below))
	}
}

// beyond returns indices that n blocks do not include: the nearest ones, the ends of int, and those that lose high bits into the range.
func beyond(n int) []int {
	return []int{-1, -2, -n, n, n + 1, 2*n + 1, 1<<8 + n, 1<<16 + n - 1, 1 << 32, 1<<32 + n - 1, n - 1 - 1<<32, math.MinInt, math.MinInt + n - 1, math.MaxInt - 1, math.MaxInt}
}

// edges returns indices of n blocks at their ends, and some between.
func edges(n int) []int {
	l := slices.DeleteFunc([]int{0, 1, 2, 3, 255, 256, n / 2, n - 2, n - 1}, func(i int) bool { return !has(n, i) })
	slices.Sort(l)
	return slices.Compact(l)
}

// sizes are the numbers of blocks of the issue, and some more.
var sizes = []int{1, 2, 3, 5, 16, 17, 257, api.MaxBlocks}

// badCounts are numbers of blocks that no array has.
var badCounts = []int{0, -1, -2, -4095, -4096, -4097, 4097, 4098, 8192, 1 << 16, 1<<32 + 1, 1<<32 + 4096, 1 - 1<<32, math.MinInt, math.MinInt + 1, math.MaxInt - 1, math.MaxInt}
