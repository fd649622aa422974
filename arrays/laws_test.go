package arrays_test

import (
	"slices"
	"testing"

	"caisson/api"
	"caisson/arrays"
)

// after returns what Play makes of an array.
func after(t *testing.T, a arrays.Array, l ...api.Op) (arrays.Array, []arrays.Result) {
	t.Helper()
	next, results, e := arrays.Play(a, l)
	if e != api.OK {
		t.Fatalf("Play: error %d", e)
	}
	return next, results
}

func crashed(t *testing.T, a arrays.Array) arrays.Array {
	t.Helper()
	next, e := arrays.Crash(a)
	if e != api.OK {
		t.Fatalf("Crash: error %d", e)
	}
	return next
}

func flushed(t *testing.T, a arrays.Array) arrays.Array {
	t.Helper()
	next, e := arrays.Flush(a)
	if e != api.OK {
		t.Fatalf("Flush: error %d", e)
	}
	return next
}

// P21.6: operations on different blocks can be exchanged, also among others.
func TestExchange(t *testing.T) {
	below := drawer(6)
	on := func(i, k int) []api.Op {
		return []api.Op{read(i), write(i, name(k)), write(i, zero), write(i, name(k)[:31])}
	}
	for _, n := range sizes {
		a := give(filled(n)).Array
		for _, i := range edges(n) {
			for _, j := range edges(n) {
				if i == j {
					continue
				}
				for _, p := range on(i, 40000) {
					for _, q := range on(j, 40001) {
						before, behind := draw(below, n), draw(below, n)
						one, results := after(t, a, before, p, q, behind)
						other, exchanged := after(t, a, before, q, p, behind)
						exchanged[1], exchanged[2] = exchanged[2], exchanged[1]
						if !arrays.Same(one, other) || !slices.Equal(results, exchanged) {
							t.Fatalf("%+v and %+v of %d blocks cannot be exchanged", p, q, n)
						}
					}
				}
			}
		}
	}
}

// P21.6: a Write after a Write of the same block makes the first one have no effect, whatever lies between, unless that is a Flush.
func TestSecondWrite(t *testing.T) {
	below := drawer(7)
	for _, n := range []int{1, 2, 5, 4096} {
		a := give(filled(n)).Array
		for _, i := range edges(n) {
			first, second := write(i, name(40000)), write(i, name(40001))
			for range 20 {
				var between []api.Op
				for range below(6) {
					if op := draw(below, n); op.Kind != api.Flush {
						between = append(between, op)
					}
				}
				both, _ := after(t, a, slices.Concat([]api.Op{first}, between, []api.Op{second})...)
				one, _ := after(t, a, append(slices.Clone(between), second)...)
				if !arrays.Same(both, one) {
					t.Fatalf("a Write of block %d of %d has an effect behind the next one: %+v", i, n, between)
				}
				parted, _ := after(t, a, slices.Concat([]api.Op{first, flush()}, between, []api.Op{second})...)
				if parted.Durable[i] != block(name(40000)) || parted.Now[i] != block(name(40001)) {
					t.Fatalf("a Write of block %d of %d ahead of a Flush has no effect", i, n)
				}
				if b, e := arrays.Read(crashed(t, parted), i); b != block(name(40000)) || e != api.OK {
					t.Fatalf("after a crash block %d of %d is %x, %d", i, n, b, e)
				}
			}
		}
	}
}

// P21.6: after Flush a Crash changes nothing, and neither does another Flush; nor does a Crash after a Crash.
func TestCrashAfterFlush(t *testing.T) {
	below := drawer(8)
	for _, n := range sizes {
		a := give(filled(n)).Array
		for range 30 {
			a, _ = after(t, a, draw(below, n), draw(below, n), draw(below, n))
			f, c := flushed(t, a), crashed(t, a)
			if !arrays.Same(crashed(t, f), f) || !arrays.Same(flushed(t, f), f) || !slices.Equal(f.Now, a.Now) {
				t.Fatalf("of %d blocks a Flush changes Now, or a Crash or a Flush changes something behind it", n)
			}
			if !arrays.Same(crashed(t, c), c) || !arrays.Same(flushed(t, c), c) || !slices.Equal(c.Durable, a.Durable) {
				t.Fatalf("of %d blocks a Crash changes Durable, or a Crash or a Flush changes something behind it", n)
			}
			if done, _ := after(t, a, flush()); !arrays.Same(done, f) {
				t.Fatalf("of %d blocks the operation makes something else of the array than Flush", n)
			}
		}
	}
}

// P21.6: Durable changes by Flush alone, and is then what Now was.
func TestDurable(t *testing.T) {
	below := drawer(9)
	for _, n := range sizes {
		a := give(filled(n)).Array
		for range 200 {
			op := draw(below, n)
			next, _ := after(t, a, op)
			want := a.Durable
			if op.Kind == api.Flush {
				want = a.Now
			}
			if !slices.Equal(next.Durable, want) {
				t.Fatalf("%+v makes Durable of %d blocks another one", op, n)
			}
			written, e := arrays.Write(next, below(n), block(name(30000)))
			if e != api.OK || !slices.Equal(written.Durable, want) {
				t.Fatalf("Write makes Durable of %d blocks another one, %d", n, e)
			}
			if below(10) == 0 {
				next = crashed(t, next)
			}
			if !slices.Equal(next.Durable, want) {
				t.Fatalf("Crash makes Durable of %d blocks another one", n)
			}
			a = next
		}
	}
}

// P21.2, P21.4, P21.5: Read, Write and Flush do what the operations do; Differ has the blocks that were written.
func TestFunctionsAndOperations(t *testing.T) {
	below := drawer(10)
	for _, n := range sizes {
		a := give(filled(n)).Array
		for range 50 {
			i, b := below(n+2)-1, name(1+below(50000))
			x, e := arrays.Read(a, i)
			if next, r, f := arrays.Do(a, read(i)); r != (arrays.Result{Value: x, Err: e}) || f != api.OK || !arrays.Same(next, a) {
				t.Fatalf("Read(%d) of %d blocks: %x, %d, and the operation %+v, %d", i, n, x, e, r, f)
			}
			written, e := arrays.Write(a, i, block(b))
			next, r, f := arrays.Do(a, write(i, b))
			if r != (arrays.Result{Err: e}) || f != api.OK {
				t.Fatalf("Write(%d) of %d blocks: %d, and the operation %+v, %d", i, n, e, r, f)
			}
			if e != api.OK {
				checkNoArray(t, "Write", written, e, api.ErrArg)
				continue
			}
			if l, e := arrays.Differ(a, written); !arrays.Same(next, written) || e != api.OK || !slices.Equal(l, []int{i}) && x != block(b) {
				t.Fatalf("Write(%d) of %d blocks changes %v, %d, or the operation changes others", i, n, l, e)
			}
			a = next
		}
	}
}
