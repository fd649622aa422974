package arrays_test

import (
	"slices"
	"testing"

	"caisson/api"
	"caisson/arrays"
)

// invalid returns arrays that are not valid: without blocks, with too many, and with Now and Durable of other lengths.
func invalid() []given {
	room := filled(5000).now
	l := []given{{}, {Array: arrays.Array{Now: []api.Block{}, Durable: []api.Block{}}}}
	for _, x := range [][2]int{{0, 0}, {0, 1}, {1, 0}, {1, 2}, {2, 1}, {5, 4}, {4, 5}, {4095, 4096}, {4096, 4095}, {4096, 4097}, {4097, 4096}, {4097, 4097}, {5000, 5000}, {0, 4097}, {1, 4096}} {
		l = append(l, lists(room[:x[0]], room[:x[1]]))
	}
	return l
}

// P21.1 to P21.5: with an array that is not valid each function returns ErrArg, whatever the other arguments are, and nothing else.
func TestInvalidArrays(t *testing.T) {
	valid := []given{give(filled(1)), give(filled(5)), give(filled(4096))}
	for _, g := range invalid() {
		if e := arrays.Check(g.Array); e != api.ErrArg {
			t.Fatalf("Check: %d", e)
		}
		for _, i := range append(beyond(1), 0, 1, 4, 4095, 4096) {
			if b, e := arrays.Read(g.Array, i); b != (api.Block{}) || e != api.ErrArg {
				t.Fatalf("Read(%d): %x, %d", i, b, e)
			}
			a, e := arrays.Write(g.Array, i, block(name(1)))
			checkNoArray(t, "Write", a, e, api.ErrArg)
		}
		a, e := arrays.Flush(g.Array)
		checkNoArray(t, "Flush", a, e, api.ErrArg)
		a, e = arrays.Crash(g.Array)
		checkNoArray(t, "Crash", a, e, api.ErrArg)
		for _, op := range append(few(), api.Op{}, api.Op{Kind: 4}) {
			a, r, e := arrays.Do(g.Array, op)
			checkNoArray(t, "Do", a, e, api.ErrArg)
			if r != (arrays.Result{}) {
				t.Fatalf("Do(%+v): %+v", op, r)
			}
			for _, size := range []int{0, 1, 256, 257, 1000} {
				a, results, e := arrays.Play(g.Array, slices.Repeat([]api.Op{op}, size))
				checkNoArray(t, "Play", a, e, api.ErrArg)
				if len(results) != 0 {
					t.Fatalf("Play of %d operations returned %d results", size, len(results))
				}
			}
		}
		for _, v := range append(valid, g) {
			l, e := arrays.Differ(g.Array, v.Array)
			m, f := arrays.Differ(v.Array, g.Array)
			if len(l) != 0 || len(m) != 0 || e != api.ErrArg || f != api.ErrArg {
				t.Fatalf("Differ: %v, %d, and %v, %d in the other order", l, e, m, f)
			}
			v.checkKept(t)
		}
		g.checkKept(t)
	}
}

// shared returns an array whose Now and Durable are the same memory.
func shared(m model) given {
	l := blocks(m.now)
	return given{arrays.Array{Now: l, Durable: l}, l, slices.Clone(l)}
}

// overlapping returns an array whose Durable begins with the last blocks of Now.
func overlapping(n int) (given, model) {
	room := blocks(slices.Concat(filled(n).now, filled(n).durable))
	g := given{arrays.Array{Now: room[:n], Durable: room[n/2 : n/2+n]}, room, slices.Clone(room)}
	var m model
	for i := range n {
		m.now = append(m.now, string(g.Now[i][:]))
		m.durable = append(m.durable, string(g.Durable[i][:]))
	}
	return g, m
}

// R4: Now and Durable of an argument may lie in the same memory; those of a result do not.
func TestSharedArguments(t *testing.T) {
	for _, n := range []int{1, 2, 5, 64, 4096} {
		lying, overlap := overlapping(n)
		for _, x := range []struct {
			given
			model
		}{{shared(filled(n)), filled(n).flush()}, {lying, overlap}} {
			b := name(50000)
			a, e := arrays.Write(x.Array, n-1, block(b))
			checkArray(t, "Write", a, e, x.model.write(n-1, b))
			a, e = arrays.Flush(x.Array)
			checkArray(t, "Flush", a, e, x.model.flush())
			a, e = arrays.Crash(x.Array)
			checkArray(t, "Crash", a, e, x.model.crash())
			for _, op := range []api.Op{write(0, b), write(n-1, b), flush(), read(0), {}} {
				want, r := x.model.carry(op)
				a, got, e := arrays.Do(x.Array, op)
				checkArray(t, "Do", a, e, want)
				if got != r {
					t.Fatalf("Do(%+v): %+v, want %+v", op, got, r)
				}
				a, _, e = arrays.Play(x.Array, []api.Op{op})
				checkArray(t, "Play", a, e, want)
			}
			a, _, e = arrays.Play(x.Array, nil)
			checkArray(t, "Play", a, e, x.model)
			if l, e := arrays.Differ(x.Array, x.Array); len(l) != 0 || e != api.OK || !arrays.Same(x.Array, x.Array) {
				t.Fatalf("an array differs from itself at %v, %d", l, e)
			}
			x.checkKept(t)
		}
	}
}

// R4: data of a Write that lie in the array's own memory are those that were there before the call.
func TestDataInTheArray(t *testing.T) {
	m := filled(3)
	g := give(m)
	l := []api.Op{write(1, name(50000)), {Kind: 2, Index: 0, Data: g.Now[1][:]}, flush(), {Kind: 2, Index: 2, Data: g.Durable[0][:]}}
	want := model{[]string{m.now[1], name(50000), m.durable[0]}, []string{m.now[1], name(50000), m.now[2]}}
	a, _, e := arrays.Play(g.Array, l)
	checkArray(t, "Play", a, e, want)
	g.checkKept(t)
	a, _, e = arrays.Do(g.Array, l[1])
	checkArray(t, "Do", a, e, m.write(0, m.now[1]))
	g.checkKept(t)
}

// R4: an array that was returned does not change with what it was made of.
func TestKeptArguments(t *testing.T) {
	m := filled(5)
	data := []byte(name(50000))
	op := api.Op{Kind: 2, Index: 1, Data: data}
	for what, change := range map[string]func(a arrays.Array) (arrays.Array, api.Errno){
		"Write": func(a arrays.Array) (arrays.Array, api.Errno) { return arrays.Write(a, 1, block(name(50000))) },
		"Flush": arrays.Flush,
		"Crash": arrays.Crash,
		"Do": func(a arrays.Array) (arrays.Array, api.Errno) {
			a, _, e := arrays.Do(a, op)
			return a, e
		},
		"a bad Do": func(a arrays.Array) (arrays.Array, api.Errno) {
			a, _, e := arrays.Do(a, api.Op{})
			return a, e
		},
		"Play": func(a arrays.Array) (arrays.Array, api.Errno) {
			a, _, e := arrays.Play(a, []api.Op{op, read(0)})
			return a, e
		},
		"Play of nothing": func(a arrays.Array) (arrays.Array, api.Errno) {
			a, _, e := arrays.Play(a, nil)
			return a, e
		},
	} {
		g := give(m)
		a, e := change(g.Array)
		want := model{}
		for i := range a.Now {
			want.now, want.durable = append(want.now, string(a.Now[i][:])), append(want.durable, string(a.Durable[i][:]))
		}
		clear(g.memory)
		clear(data)
		checkArray(t, what, a, e, want)
		copy(data, name(50000))
	}
}
