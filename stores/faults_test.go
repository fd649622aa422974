package stores_test

import (
	"bytes"
	"math"
	"reflect"
	"slices"
	"testing"

	"caisson/api"
)

// worn returns a store whose blocks were written in several commits, some of them since the last one. Both slots of most sectors are in use, and the blocks of the last quarter were never written.
func worn(t *testing.T, n int) twin {
	t.Helper()
	w := begin(t, plenty(n, min(n, 3)))
	written := max(1, n-n/4)
	for round := range 4 {
		for i := range written {
			if i%3 == round%3 || round == 0 {
				w = w.do(t, op{kind: write, at: i, data: plain(100*round + i)})
			}
		}
		if round < 3 {
			w = w.do(t, op{kind: flush})
		}
	}
	return w
}

// flipped returns bytes with another bit at a place.
func flipped(b string, at int) []byte {
	made := []byte(b)
	made[at] ^= 0x10
	return made
}

// edits returns edits of all kinds of a sector: contents of all lengths, its own content with other bytes, and those of others.
func edits(m model, sector int) []op {
	l := []op{{kind: erase, at: sector}}
	put := func(b []byte) { l = append(l, op{kind: edit, at: sector, data: b}) }
	for _, length := range []int{0, 1, 31, 32, 33, 136, 137, 138, 184, 185, 186, 256, 257} {
		put(make([]byte, length))
	}
	b := m.now(sector).bytes
	put([]byte(b))
	put(append([]byte(b), 0))
	for _, at := range []int{0, 1, 4, 5, 6, 18, 31, len(b) - 1} {
		if at >= 0 && at < len(b) {
			put(flipped(b, at))
			put([]byte(b)[:at])
		}
	}
	for _, other := range []int{sector ^ 1, (sector + 2) % len(m.sectors), len(m.sectors) - 1, len(m.sectors) - 2} {
		if c := m.now(other); c.there {
			put([]byte(c.bytes))
		}
	}
	for back := -1; back <= len(m.sectors[sector])+1; back++ {
		l = append(l, op{kind: replay, at: sector, back: back})
	}
	return l
}

// P22.2, P22.4, P22.5: every sector with every kind of edit: what is read then, what a crash leaves, and that a flush does not repair it.
func TestEdits(t *testing.T) {
	t.Parallel()
	poisoned, lost := 0, 0
	for _, n := range []int{1, 2, 4, 5, 17} {
		w := worn(t, n)
		for sector := range w.model.sectors {
			for _, o := range edits(w.model, sector) {
				next := w.do(t, o)
				for _, i := range []int{sector / 2, 0, n - 1} {
					if i < n && next.do(t, op{kind: read, at: i}).store.Poisoned() {
						lost++
					}
				}
				after := next.do(t, op{kind: crash})
				if after.store.Poisoned() {
					poisoned++
				}
				after.all(t, op{kind: read, at: min(sector/2, n-1)}, op{kind: write, at: 0, data: plain(7)}, op{kind: flush})
				next.all(t, op{kind: flush}, op{kind: crash}, op{kind: read, at: min(sector/2, n-1)})
			}
		}
	}
	if poisoned < 100 || lost < 100 {
		t.Fatalf("only %d crashes poisoned a store, and %d reads", poisoned, lost)
	}
}

// P22.4: after a crash a store is poisoned as long as a sector that its tree needs has another content, and not by any other one.
func TestNeededSectors(t *testing.T) {
	t.Parallel()
	for _, n := range []int{1, 5, 17, 65} {
		w := worn(t, n).do(t, op{kind: crash})
		needed := 0
		for sector := range w.model.sectors {
			c := w.model.now(sector)
			gone := w.all(t, op{kind: erase, at: sector}, op{kind: crash})
			if gone.store.Poisoned() {
				needed++
			}
			if gone.store.Poisoned() && (sector < 2*n || !c.there) {
				t.Fatalf("%d blocks: sector %d poisoned the store", n, sector)
			}
			back := op{kind: replay, at: sector, back: 1}
			repaired := gone.all(t, op{kind: crash}, back, op{kind: crash})
			if repaired.store.Poisoned() {
				t.Fatalf("%d blocks: the sector %d is as it was, and the store is poisoned", n, sector)
			}
		}
		used := 0
		for _, p := range places(n) {
			if w.model.isUsed(p) {
				used++
			}
		}
		if needed != used {
			t.Fatalf("%d blocks: the tree needs %d sectors, want %d", n, needed, used)
		}
	}
}

// P22.2: each problem of a block poisons the store, and no other block has it.
func TestProblems(t *testing.T) {
	t.Parallel()
	w := worn(t, 5).do(t, op{kind: flush})
	for i := range w.model.n {
		r := w.model.records[i]
		if r.State == 0 {
			continue
		}
		sector := dataSector(i, int(r.State)-1)
		for _, o := range []op{{kind: erase, at: sector}, {kind: edit, at: sector}, {kind: edit, at: sector, data: make([]byte, 32)}, {kind: edit, at: sector, data: make([]byte, 33)}, {kind: replay, at: sector, back: 1}, {kind: edit, at: sector, data: flipped(w.model.now(sector).bytes, 31)}} {
			next := w.do(t, o)
			for j := range w.model.n {
				if after := next.do(t, op{kind: read, at: j}); after.store.Poisoned() != (i == j) {
					t.Fatalf("%+v: block %d poisons: %v", o, j, after.store.Poisoned())
				}
			}
			// A block that is written again is read, whatever its other sector has, and a bad index poisons nothing.
			next = next.all(t, op{kind: read, at: -1}, op{kind: read, at: 5}, op{kind: write, at: i, data: plain(9)}, op{kind: read, at: i})
			if next.store.Poisoned() {
				t.Fatal("a block that was written again is not read")
			}
		}
	}
}

// spoilt returns a store that a Read has poisoned, or a crash.
func spoilt(t *testing.T, crashed bool) twin {
	t.Helper()
	w := worn(t, 5)
	if crashed {
		w = w.all(t, op{kind: erase, at: nodeSector(5, rootOf(5), 1)}, op{kind: crash})
	} else {
		w = w.all(t, op{kind: erase, at: dataSector(0, int(w.model.records[0].State)-1)}, op{kind: read})
	}
	if !w.store.Poisoned() {
		t.Fatal("the store is not poisoned")
	}
	return w
}

// P22.2 to P22.4: a poisoned store refuses all reads, writes and flushes, whatever their arguments, until a crash.
func TestPoisoned(t *testing.T) {
	for _, crashed := range []bool{false, true} {
		w := spoilt(t, crashed)
		for _, i := range append(beyond(5), 0, 1, 2, 3, 4) {
			after, b, e := w.store.Read(i)
			if b != (api.Block{}) || e != api.ErrIntegrity || !reflect.DeepEqual(after, w.store) {
				t.Fatalf("Read(%d) of a poisoned store: %x, %d", i, b, e)
			}
			for _, data := range [][]byte{nil, plain(1), make([]byte, 31), make([]byte, 33)} {
				if after, e := w.store.Write(i, data); e != api.ErrIntegrity || !reflect.DeepEqual(after, w.store) {
					t.Fatalf("Write(%d, %x) of a poisoned store: %d", i, data, e)
				}
			}
		}
		if after, e := w.store.Flush(); e != api.ErrIntegrity || !reflect.DeepEqual(after, w.store) {
			t.Fatalf("Flush of a poisoned store: %d", e)
		}
		for sector := range w.model.sectors {
			for _, o := range edits(w.model, sector) {
				if next := w.do(t, o); !next.store.Poisoned() {
					t.Fatalf("%+v repaired a poisoned store", o)
				}
			}
		}
		next := w.all(t, op{kind: read}, op{kind: crash})
		if next.store.Poisoned() != crashed {
			t.Fatalf("after a crash the store is poisoned: %v", next.store.Poisoned())
		}
		next.all(t, op{kind: read, at: 1}, op{kind: write, at: 0, data: plain(3)}, op{kind: read}, op{kind: flush}, op{kind: crash}, op{kind: read}, op{kind: read, at: 2})
	}
}

// P22.4: nonces are not forgotten by a store that is poisoned when it crashes.
func TestNoncesOfPoisoned(t *testing.T) {
	w := begin(t, config(1, 1, 20, 4)).all(t, op{kind: write, data: plain(1)}, op{kind: flush}, op{kind: write, data: plain(2)})
	root := nodeSector(1, rootOf(1), 1)
	w = w.all(t, op{kind: erase, at: root}, op{kind: crash}, op{kind: crash}, op{kind: replay, at: root, back: 1}, op{kind: crash})
	if w.store.Poisoned() || w.store.Cell().Mark != 4 {
		t.Fatal(w.store.Poisoned(), w.store.Cell())
	}
	w = w.all(t, op{kind: write, data: plain(3)}, op{kind: write, data: plain(4)}, op{kind: read})
	want := []uint64{0, 1, 4, 5}
	for k, u := range w.store.Ledger().Uses {
		if u.Range.Nonce.Counter != want[k] {
			t.Fatalf("the nonce %d is %+v", k, u)
		}
	}
}

// P22.5: the errors of the disk, in its order, and nothing else with them.
func TestEditErrors(t *testing.T) {
	for _, n := range []int{1, 5} {
		w := worn(t, n)
		size := len(w.model.sectors)
		var l []op
		for _, sector := range beyond(size) {
			l = append(l, op{kind: edit, at: sector}, op{kind: edit, at: sector, data: make([]byte, 32)}, op{kind: edit, at: sector, data: make([]byte, 257)}, op{kind: erase, at: sector})
			for _, back := range []int{-1, 0, 1, 99} {
				l = append(l, op{kind: replay, at: sector, back: back})
			}
		}
		for sector := range size {
			for _, length := range []int{257, 258, 512, 1 << 16} {
				l = append(l, op{kind: edit, at: sector, data: make([]byte, length)})
			}
			count := len(w.model.sectors[sector])
			for _, back := range []int{math.MinInt, -2, -1, count + 1, count + 2, math.MaxInt} {
				l = append(l, op{kind: replay, at: sector, back: back})
			}
		}
		for _, o := range l {
			after, _, e := o.call(w.store, o.data)
			if e != api.ErrArg && e != api.ErrLimit && e != api.ErrNone || !reflect.DeepEqual(after, w.store) {
				t.Fatalf("%+v: error %d", o, e)
			}
			w.do(t, o)
		}
	}
}

// P22.5: edits of all lengths, in both slots of data and nodes, change the disk alone; the store goes on with its tree.
func TestEditLengths(t *testing.T) {
	t.Parallel()
	w := worn(t, 5)
	for sector := range w.model.sectors {
		next := w
		for length := 0; length <= 256; length += 1 + sector%3 {
			next = next.do(t, op{kind: edit, at: sector, data: bytes.Repeat([]byte{byte(length)}, length)})
		}
		next = next.do(t, op{kind: replay, at: sector, back: len(next.model.sectors[sector]) - len(w.model.sectors[sector])})
		if next.model.now(sector) != w.model.now(sector) {
			t.Fatal(sector)
		}
		next.readAll(t)
		next = next.all(t, op{kind: write, at: 1, data: plain(1)}, op{kind: flush}, op{kind: crash})
		if next.store.Poisoned() {
			t.Fatalf("sector %d is as it was, and the store is poisoned", sector)
		}
		next.readAll(t)
	}
}

// P22.7: what was durable in the past, all of its sectors together, is not believed behind a later commit.
func TestOldDisks(t *testing.T) {
	t.Parallel()
	for _, n := range []int{1, 5, 17} {
		w := begin(t, plenty(n, 1))
		past := []twin{w}
		for k := range 5 {
			w = w.all(t, op{kind: write, at: k * 3 % n, data: plain(k)}, op{kind: flush})
			past = append(past, w)
		}
		for k, old := range past {
			next := w
			for sector := range w.model.sectors {
				if c := old.model.now(sector); c.there {
					next = next.do(t, op{kind: edit, at: sector, data: []byte(c.bytes)})
				} else {
					next = next.do(t, op{kind: erase, at: sector})
				}
			}
			next.readAll(t)
			next = next.do(t, op{kind: crash})
			if next.store.Poisoned() != (k < 5) {
				t.Fatalf("%d blocks: the disk after %d of 5 commits: poisoned %v", n, k, next.store.Poisoned())
			}
			next.readAll(t)
		}
	}
}

// P22.7: what another volume wrote is not believed, with another key, or at another place.
func TestOtherVolumes(t *testing.T) {
	c := plenty(5, 1)
	c.Master = master(77)
	other := begin(t, c)
	w := begin(t, plenty(5, 1))
	for i := range 5 {
		o := op{kind: write, at: i, data: plain(i)}
		w, other = w.do(t, o), other.do(t, o)
	}
	for i := range 5 {
		for j := range 5 {
			if i != j {
				next := w.do(t, op{kind: edit, at: 2 * i, data: []byte(w.model.now(2 * j).bytes)})
				if next = next.do(t, op{kind: read, at: i}); !next.store.Poisoned() {
					t.Fatalf("block %d was accepted as block %d", j, i)
				}
			}
		}
		next := w.do(t, op{kind: edit, at: 2 * i, data: []byte(other.model.now(2 * i).bytes)})
		if next = next.do(t, op{kind: read, at: i}); !next.store.Poisoned() {
			t.Fatalf("block %d of another volume was accepted", i)
		}
	}
}

// P22.5: the bytes that were passed can be changed afterwards, and those that are read from the disk too.
func TestEditedBytes(t *testing.T) {
	w := worn(t, 4)
	b := bytes.Repeat([]byte{3}, 32)
	s, e := w.store.Edit(1, b)
	if e != api.OK {
		t.Fatal(e)
	}
	clear(b)
	for range 2 {
		got, e := s.Disk().Read(1)
		if e != api.OK || !slices.Equal(got, bytes.Repeat([]byte{3}, 32)) {
			t.Fatal(got, e)
		}
		clear(got)
	}
	data := plain(8)
	if s, e = s.Write(0, data); e != api.OK {
		t.Fatal(e)
	}
	clear(data)
	if _, got, e := s.Read(0); got != api.Block(plain(8)) || e != api.OK {
		t.Fatal(got, e)
	}
	w.check(t)
}
