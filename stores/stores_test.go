package stores_test

import (
	"math"
	"testing"

	"caisson/api"
	"caisson/ledgers"
	"caisson/stores"
)

// The examples of the chapter, and those of DOC.md that are about stores.
func TestExamples(t *testing.T) {
	x, y, z := plain(1), plain(2), plain(3)
	put := func(b []byte) op { return op{kind: write, data: b} }
	w := begin(t, config(1, 1, 2, 1))
	full := w.all(t, put(x), put(y))
	if _, e := full.store.Write(0, z); e != api.ErrNonce {
		t.Fatalf("the third write: error %d", e)
	}
	full = full.do(t, put(z))
	if c := full.store.Cell(); c.Epoch != 0 || c.Mark != 2 || len(full.store.Log()) != 3 {
		t.Fatalf("the cell is %+v, the log %+v", c, full.store.Log())
	}
	if _, b, e := w.all(t, put(x), op{kind: crash}).store.Read(0); b != (api.Block{}) || e != api.OK {
		t.Fatalf("after a crash: %x, %d", b, e)
	}
	w = w.all(t, put(x), op{kind: flush}, op{kind: crash})
	if _, b, e := w.store.Read(0); b != api.Block(x) || e != api.OK {
		t.Fatalf("after a flush and a crash: %x, %d", b, e)
	}
	erased, e := w.store.Erase(0)
	if e != api.OK {
		t.Fatal(e)
	}
	for _, i := range []int{0, 5} {
		if erased, _, e = erased.Read(i); e != api.ErrIntegrity {
			t.Fatalf("Read(%d) after an erasure: error %d", i, e)
		}
	}
	if _, e = erased.Flush(); e != api.ErrIntegrity {
		t.Fatalf("Flush after an erasure: error %d", e)
	}
	again, e := erased.Crash()
	if e != api.OK {
		t.Fatal(e)
	}
	if _, _, e := again.Read(0); e != api.ErrIntegrity {
		t.Fatalf("Read after an erasure and a crash: error %d", e)
	}
	replayed, e := erased.Replay(0, 1)
	if e != api.OK {
		t.Fatal(e)
	}
	if replayed, e = replayed.Crash(); e != api.OK {
		t.Fatal(e)
	}
	if _, b, e := replayed.Read(0); b != api.Block(x) || e != api.OK {
		t.Fatalf("after a replay and a crash: %x, %d", b, e)
	}
}

// isGood tells whether a configuration is valid for a store.
func isGood(c api.Config) bool {
	return c.Blocks >= 1 && c.Blocks <= 4096 && c.Shards >= 1 && c.Shards <= 8 && c.Shards <= c.Blocks && c.Reserve >= 1 && c.Reserve <= 1<<32 && c.Limit >= c.Reserve
}

// P22.1: all combinations of numbers of blocks and shards, limits and reserves.
func TestConfigurations(t *testing.T) {
	t.Parallel()
	blocks := []int{math.MinInt, -4096, -1, 0, 1, 2, 3, 7, 8, 9, 4095, 4096, 4097, 1 << 32, 1<<32 + 1, math.MaxInt}
	shards := []int{math.MinInt, -8, -1, 0, 1, 2, 3, 4, 7, 8, 9, 10, 256, 1 << 32, 1<<32 + 1, math.MaxInt}
	limits := []uint64{0, 1, 2, 3, 1<<32 - 1, 1 << 32, 1<<32 + 1, math.MaxUint64}
	for _, n := range blocks {
		for _, s := range shards {
			for _, limit := range limits {
				for _, reserve := range limits {
					if n > 4000 && limit != reserve {
						continue
					}
					c := config(n, s, limit, reserve)
					if isGood(c) {
						begin(t, c)
						continue
					}
					got, e := stores.Open(c)
					if e != api.ErrConfig {
						t.Fatalf("Open(%+v): error %d", c, e)
					}
					checkNone(t, got)
				}
			}
		}
	}
}

// P22.1: numbers of blocks with each number of shards, which may be as many as there are blocks, and not more.
func TestShardsOfBlocks(t *testing.T) {
	t.Parallel()
	for _, n := range []int{1, 2, 3, 4, 5, 6, 7, 8, 9, 16, 17, 64, 65, 257, 1025, 4096} {
		for shards := 1; shards <= 8; shards++ {
			c := plenty(n, shards)
			if shards > n {
				if s, e := stores.Open(c); e != api.ErrConfig || s.Blocks() != 0 {
					t.Fatalf("Open(%+v): error %d", c, e)
				}
				continue
			}
			w := begin(t, c)
			for _, i := range []int{0, n / 2, n - 1} {
				w = w.all(t, op{kind: read, at: i}, op{kind: write, at: i, data: plain(i)}, op{kind: read, at: i})
				if n := w.model.uses[len(w.model.uses)-1].Range.Nonce; int(n.Shard) != i%shards {
					t.Fatalf("block %d of %d shards: %+v", i, shards, n)
				}
			}
		}
	}
}

// P22.1: what the other fields have does not matter, but for the master key, which makes other keys.
func TestOtherFields(t *testing.T) {
	c := api.Config{Blocks: 5, Shards: 2, Limit: 9, Reserve: 3}
	for _, frames := range []int{math.MinInt, 0, 1, 64, math.MaxInt} {
		for _, clients := range []int{math.MinInt, 0, 8, math.MaxInt} {
			for _, flaw := range []uint8{0, 1, 2, 3, 4, 5, 6, 255} {
				c.Frames, c.Clients, c.Flaw, c.Master = frames, clients, flaw, master(int(flaw))
				w := begin(t, c)
				w = w.all(t, op{kind: write, at: 3, data: plain(1)}, op{kind: flush}, op{kind: write, at: 3, data: plain(2)}, op{kind: crash}, op{kind: read, at: 3})
				w.all(t, op{kind: erase, at: 6}, op{kind: read, at: 3}, op{kind: flush})
			}
		}
	}
	for i := range 32 {
		c.Master = api.Key{}
		c.Master[i] = 128
		begin(t, c).all(t, op{kind: write, at: 1, data: plain(i)}, op{kind: flush}, op{kind: read, at: 1})
	}
}

// P22.1, P22.2: fresh volumes of many numbers of blocks have nothing but zeros.
func TestFresh(t *testing.T) {
	t.Parallel()
	for n := 1; n <= 4096; n += 1 + n/30 {
		w := begin(t, plenty(n, min(n, 1+n%8)))
		for i := range n {
			after, b, e := w.store.Read(i)
			if b != (api.Block{}) || e != api.OK || after.Poisoned() {
				t.Fatalf("block %d of %d is %x, %d", i, n, b, e)
			}
		}
		w.check(t)
	}
}

// The zero store: all methods.
func TestNone(t *testing.T) {
	var s stores.Store
	checkNone(t, s)
	for k := read; k <= replay; k++ {
		for _, at := range []int{0, -1, 1, math.MinInt, math.MaxInt} {
			for _, data := range [][]byte{nil, plain(1), plain(1)[1:], make([]byte, 257)} {
				for _, back := range []int{0, -1, 1} {
					after, value, e := op{kind: k, at: at, back: back}.call(s, data)
					if value != (api.Block{}) || e != api.ErrNil {
						t.Fatalf("kind %d of the zero store: %x, %d", k, value, e)
					}
					checkNone(t, after)
				}
			}
		}
	}
}

// P22.2, P22.3: indices within the blocks and beyond, and data of all lengths.
func TestArguments(t *testing.T) {
	for _, n := range []int{1, 2, 4, 5, 17, 65} {
		w := begin(t, plenty(n, min(n, 3)))
		for _, i := range []int{0, n / 3, n - 1} {
			w = w.all(t, op{kind: write, at: i, data: plain(i + 1)}, op{kind: read, at: i})
		}
		for _, i := range beyond(n) {
			for _, data := range [][]byte{plain(1), nil} {
				w.do(t, op{kind: write, at: i, data: data})
			}
			w.do(t, op{kind: read, at: i})
		}
		for _, length := range []int{0, 1, 16, 31, 33, 63, 64, 65, 256, 257, 4096, 1 << 16} {
			for _, i := range []int{0, n - 1, n, -1} {
				if next := w.do(t, op{kind: write, at: i, data: make([]byte, length)}); len(next.model.uses) != len(w.model.uses) {
					t.Fatal(length)
				}
			}
		}
		w.readAll(t)
	}
}

// P22.3: data of any kind comes back, also zeros, and what is on the disk is another one each time.
func TestData(t *testing.T) {
	w := begin(t, plenty(3, 2))
	seen := map[string]bool{}
	for bit := range 256 {
		data := make([]byte, 32)
		data[bit/8] = 1 << (bit % 8)
		for _, b := range [][]byte{data, make([]byte, 32)} {
			next, e := w.store.Write(bit%3, b)
			if e != api.OK {
				t.Fatal(e)
			}
			if _, got, e := next.Read(bit % 3); got != api.Block(b) || e != api.OK {
				t.Fatalf("wrote %x, read %x, %d", b, got, e)
			}
			stored, e := next.Disk().Read(2 * (bit % 3))
			if e != api.OK || seen[string(stored)] || len(stored) != 32 {
				t.Fatalf("stored %x, %d", stored, e)
			}
			seen[string(stored)] = true
			w.store = next
		}
	}
}

// P22.3: marks that rise once, several times and not at all, by any reserve, with crashes between.
func TestMarks(t *testing.T) {
	t.Parallel()
	for limit := uint64(1); limit <= 7; limit++ {
		for reserve := uint64(1); reserve <= limit; reserve++ {
			for n := 1; n <= 3; n++ {
				w := begin(t, config(3, n, limit, reserve))
				marked(t, w, 4)
				for k := range 8 * n {
					w = w.do(t, op{kind: write, at: k % 3, data: plain(k)})
				}
				if mark := w.store.Cell().Mark; mark != limit/reserve*reserve || len(w.store.Log()) != 1+int(limit/reserve) {
					t.Fatalf("limit %d, reserve %d: mark %d, log %+v", limit, reserve, mark, w.store.Log())
				}
			}
		}
	}
}

// marked writes, with a crash after each write or not.
func marked(t *testing.T, w twin, depth int) {
	t.Helper()
	if depth == 0 {
		return
	}
	for _, i := range []int{0, 1} {
		next := w.do(t, op{kind: write, at: i, data: plain(depth)})
		marked(t, next, depth-1)
		marked(t, next.do(t, op{kind: crash}), depth-1)
	}
}

// P22.3: a shard that has no nonces left refuses its blocks, and the others go on.
func TestOneShardRunsOut(t *testing.T) {
	for _, c := range []api.Config{config(5, 2, 3, 1), config(5, 2, 4, 4), config(9, 4, 5, 2), config(8, 8, 2, 2)} {
		w := begin(t, c)
		last := c.Shards - 1
		w = w.do(t, op{kind: write, at: last, data: plain(100)})
		for k := range 8 {
			w = w.do(t, op{kind: write, at: 0, data: plain(k + 1)})
		}
		if _, e := w.store.Write(0, plain(9)); e != api.ErrNonce {
			t.Fatalf("%+v: the shard 0 goes on: %d", c, e)
		}
		before := len(w.store.Ledger().Uses)
		w = w.all(t, op{kind: write, at: last, data: plain(101)}, op{kind: read, at: last}, op{kind: read, at: 0})
		if len(w.store.Ledger().Uses) != before+1 {
			t.Fatalf("%+v: the last shard does not go on", c)
		}
		// A bad argument is told before that there is no nonce, and a crash leaves none.
		w.all(t, op{kind: write, at: 0, data: nil}, op{kind: write, at: -1, data: plain(1)})
		w = w.all(t, op{kind: flush}, op{kind: crash}, op{kind: write, at: last, data: plain(102)})
		if _, e := w.store.Write(last, plain(9)); e != api.ErrNonce {
			t.Fatalf("%+v: the last shard goes on after a crash: %d", c, e)
		}
		w.readAll(t)
	}
}

// P22.3: the greatest reserve and limits, which crashes use up.
func TestGreatReserves(t *testing.T) {
	const most = 1 << 32
	for _, c := range []api.Config{config(2, 1, most, most), config(2, 1, most+1, most), config(2, 2, 2*most-1, most), config(2, 2, 2*most, most), config(2, 1, math.MaxUint64, most), config(2, 1, math.MaxUint64, most-1)} {
		w := begin(t, c)
		for k := range 4 {
			w = w.all(t, op{kind: write, at: k % 2, data: plain(k)}, op{kind: write, at: k % 2, data: plain(k)}, op{kind: crash})
		}
		want := min(4, c.Limit/c.Reserve) * c.Reserve
		if w.store.Cell().Mark != want {
			t.Fatalf("%+v: the mark is %d, want %d", c, w.store.Cell().Mark, want)
		}
	}
}

// P22.3: a ledger with one use less than the greatest number, and with as many.
func TestFullLedger(t *testing.T) {
	t.Parallel()
	s, e := stores.Open(config(2, 1, ledgers.MaxUses, 1))
	if e != api.OK {
		t.Fatal(e)
	}
	for k := range ledgers.MaxUses - 1 {
		if s, e = s.Write(k%2, plain(k)); e != api.OK {
			t.Fatalf("Write %d: error %d", k, e)
		}
	}
	almost := s
	if s, e = s.Write(1, plain(ledgers.MaxUses-1)); e != api.OK {
		t.Fatalf("the last Write: error %d", e)
	}
	// There is no nonce left either, but that is told behind the ledger, and the arguments before it.
	for _, x := range []struct {
		i    int
		data []byte
		want api.Errno
	}{{0, plain(1), api.ErrLimit}, {1, plain(1), api.ErrLimit}, {2, plain(1), api.ErrArg}, {-1, nil, api.ErrArg}, {0, nil, api.ErrArg}, {1, plain(1)[1:], api.ErrArg}} {
		after, e := s.Write(x.i, x.data)
		if e != x.want || len(after.Ledger().Uses) != ledgers.MaxUses || after.Disk().Changes() != s.Disk().Changes() {
			t.Fatalf("Write(%d, %x) with a full ledger: error %d", x.i, x.data, e)
		}
	}
	if len(almost.Ledger().Uses) != ledgers.MaxUses-1 || len(almost.Log()) != ledgers.MaxUses {
		t.Fatalf("the store before the last write has %d uses", len(almost.Ledger().Uses))
	}
	checkFull(t, s)
}

// checkFull checks that a store with a full ledger has one use of each nonce, in order, and does everything else.
func checkFull(t *testing.T, s stores.Store) {
	t.Helper()
	uses, log := s.Ledger().Uses, s.Log()
	if len(uses) != ledgers.MaxUses || len(log) != ledgers.MaxUses+1 {
		t.Fatalf("%d uses, %d cells", len(uses), len(log))
	}
	for k, u := range uses {
		if u.Range.Nonce != (api.Nonce{Counter: uint64(k)}) || u.Range.First != 0 || u.Range.Last != 1 || u.Key != uses[0].Key {
			t.Fatalf("the use %d is %+v", k, u)
		}
		if log[k+1].Mark != uint64(k+1) || log[k+1].Epoch != 0 {
			t.Fatalf("the cell %d is %+v", k+1, log[k+1])
		}
	}
	if _, _, found := ledgers.Repeats(s.Ledger()); found {
		t.Fatal("the ledger has a clash")
	}
	s, e := s.Flush()
	if e != api.OK {
		t.Fatal(e)
	}
	if s, e = s.Crash(); e != api.OK || s.Poisoned() || len(s.Ledger().Uses) != ledgers.MaxUses {
		t.Fatal(e, s.Poisoned())
	}
	for i := range 2 {
		if _, b, e := s.Read(i); b != api.Block(plain(ledgers.MaxUses-2+i)) || e != api.OK {
			t.Fatalf("block %d is %x, %d", i, b, e)
		}
	}
	if _, e = s.Write(0, plain(1)); e != api.ErrLimit {
		t.Fatalf("a write after a crash: error %d", e)
	}
	if s, e = s.Erase(2); e != api.OK {
		t.Fatal(e)
	}
	if s, _, e = s.Read(1); e != api.ErrIntegrity {
		t.Fatal(e)
	}
	if _, e = s.Write(0, plain(1)); e != api.ErrIntegrity {
		t.Fatalf("a write into a poisoned store with a full ledger: error %d", e)
	}
}

// P22.4: flushes without a write, after one, and after several of the same block and of different ones.
func TestFlushes(t *testing.T) {
	t.Parallel()
	for _, n := range []int{1, 2, 4, 5, 16, 17, 64, 65} {
		w, k := begin(t, plenty(n, min(n, 2))), 0
		put := func(i int) {
			k++
			w = w.do(t, op{kind: write, at: i, data: plain(k)})
		}
		for _, l := range [][]int{nil, nil, {0}, nil, {n - 1}, {0, 0, 0}, {n / 2, 0, n - 1}, {n - 1}, {0, n - 1, 0, n - 1}, nil, {n / 2}, {n / 3, 2 * n / 3}} {
			for _, i := range l {
				put(i)
			}
			w = w.do(t, op{kind: flush})
			w.do(t, op{kind: crash}).readAll(t)
			w.readAll(t)
		}
		if c := w.store.Cell(); c.Epoch != 12 || c.Mark != w.store.Log()[len(w.store.Log())-1].Mark {
			t.Fatalf("%d blocks: the cell is %+v", n, c)
		}
	}
}

// P22.4: crashes at the beginning, after writes that were not flushed, after a flush, and twice.
func TestCrashes(t *testing.T) {
	t.Parallel()
	for _, n := range []int{1, 4, 5, 17, 65} {
		for shards := 1; shards <= min(n, 3); shards++ {
			w := begin(t, config(n, shards, 1<<40, 3))
			for k := range 20 {
				if k%4 == 3 {
					w = w.do(t, op{kind: flush})
				}
				w = w.all(t, op{kind: crash}, op{kind: write, at: k * 7 % n, data: plain(k)}, op{kind: read, at: k * 7 % n})
				if k%5 == 4 {
					w = w.do(t, op{kind: crash})
				}
				w = w.do(t, op{kind: crash})
				w.readAll(t)
				w = w.do(t, op{kind: write, at: k * 5 % n, data: plain(k + 50)})
			}
			if c := w.store.Cell(); c.Mark < 100 || c.Epoch != 5 {
				t.Fatalf("%d blocks: the cell is %+v", n, c)
			}
		}
	}
}
