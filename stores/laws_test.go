package stores_test

import (
	"math"
	"testing"

	"caisson/api"
	"caisson/cells"
	"caisson/derives"
	"caisson/ledgers"
	"caisson/recovers"
)

// P22.7: all short sequences without edits: a store does what the array does.
func TestSequences(t *testing.T) {
	t.Parallel()
	one := []op{{kind: write, data: plain(1)}, {kind: write, data: plain(2)}, {kind: read}, {kind: flush}, {kind: crash}}
	begin(t, plenty(1, 1)).walk(t, one, 5)
	begin(t, config(1, 1, 3, 2)).walk(t, one, 6)
	two := []op{{kind: write, data: plain(1)}, {kind: write, at: 1, data: plain(2)}, {kind: read}, {kind: read, at: 1}, {kind: flush}, {kind: crash}}
	begin(t, config(2, 2, 3, 1)).walk(t, two, 5)
	five := []op{{kind: write, data: plain(1)}, {kind: write, at: 4, data: plain(2)}, {kind: flush}, {kind: crash}}
	begin(t, config(5, 2, 9, 3)).walk(t, five, 6)
	bad := []op{{kind: write, data: plain(1)}, {kind: write, at: 2, data: plain(1)}, {kind: write, data: plain(1)[1:]}, {kind: read, at: -1}, {kind: flush}, {kind: crash}}
	begin(t, config(2, 1, 2, 1)).walk(t, bad, 4)
}

// P22.7: all short sequences with edits on a volume of one block.
func TestSequencesWithEdits(t *testing.T) {
	t.Parallel()
	l := []op{{kind: write, data: plain(1)}, {kind: read}, {kind: flush}, {kind: crash}, {kind: erase}, {kind: replay, back: 1}, {kind: replay, at: 2, back: 1}, {kind: erase, at: 3}}
	begin(t, plenty(1, 1)).walk(t, l, 5)
	w := begin(t, config(1, 1, 6, 3)).all(t, op{kind: write, data: plain(3)}, op{kind: flush}, op{kind: write, data: plain(4)}, op{kind: flush})
	l = append(l, op{kind: replay, at: 1, back: 1}, op{kind: replay, at: 3, back: 1}, op{kind: edit, at: 1, data: plain(5)})
	w.walk(t, l, 4)
}

// P22.7: all short sequences with edits on a volume with a tree.
func TestSequencesWithTrees(t *testing.T) {
	t.Parallel()
	w := begin(t, config(5, 2, 40, 2)).all(t, op{kind: write, at: 0, data: plain(3)}, op{kind: write, at: 4, data: plain(4)}, op{kind: flush}, op{kind: write, at: 4, data: plain(5)}, op{kind: flush})
	l := []op{{kind: write, at: 4, data: plain(1)}, {kind: read, at: 4}, {kind: read}, {kind: flush}, {kind: crash}, {kind: erase, at: 12}, {kind: replay, at: 12, back: 1}, {kind: replay, at: 14, back: 1}, {kind: replay, at: 9, back: 1}}
	w.walk(t, l, 4)
}

// drawnOp returns an operation without edits: mostly a good one.
func drawnOp(draw func(int) int, n, k int) op {
	at := draw(n)
	if draw(30) == 0 {
		at = beyond(n)[draw(14)]
	}
	switch draw(12) {
	case 0, 1, 2, 3, 4:
		return op{kind: write, at: at, data: plain(k)}
	case 5, 6, 7:
		return op{kind: read, at: at}
	case 8, 9:
		return op{kind: flush}
	case 10:
		return op{kind: crash}
	}
	return op{kind: write, at: at, data: make([]byte, draw(64))}
}

// drawnEdit returns an edit of a sector, which may undo the last one.
func drawnEdit(draw func(int) int, m model) op {
	sector := draw(len(m.sectors))
	if draw(3) == 0 {
		return op{kind: replay, at: sector, back: 1}
	}
	l := edits(m, sector)
	return l[draw(len(l))]
}

// P22.7: drawn sequences on volumes of many kinds, without edits. At the end all the stores that there were are as they were.
func TestDrawn(t *testing.T) {
	t.Parallel()
	draw := drawer(22)
	for _, n := range []int{1, 2, 3, 4, 5, 8, 9, 16, 17, 21, 64, 65} {
		for _, reserve := range []uint64{1, 2, 7} {
			w := begin(t, config(n, 1+draw(min(n, 8)), reserve+uint64(draw(60)), reserve))
			past := []twin{w}
			for k := range 60 {
				w = w.do(t, drawnOp(draw, n, k))
				past = append(past, w)
			}
			w.readAll(t)
			for _, old := range past {
				old.check(t)
			}
			if w.store.Poisoned() {
				t.Fatal("a store without edits is poisoned")
			}
		}
	}
}

// P22.7: drawn sequences with edits, of which some are undone.
func TestDrawnEdits(t *testing.T) {
	t.Parallel()
	draw := drawer(23)
	for _, n := range []int{1, 2, 4, 5, 16, 17, 21, 65} {
		poisoned := 0
		for range 8 {
			w := begin(t, config(n, 1+draw(min(n, 8)), math.MaxUint64, 1+uint64(draw(9))))
			for k := range 80 {
				o := drawnOp(draw, n, k)
				if draw(6) == 0 {
					o = drawnEdit(draw, w.model)
				}
				if w.store.Poisoned() && draw(3) == 0 {
					w, poisoned = w.repaired(t, draw), poisoned+1
				}
				w = w.do(t, o)
			}
			w.readAll(t)
		}
		if poisoned < 5 {
			t.Fatalf("%d blocks: a store was poisoned %d times", n, poisoned)
		}
	}
}

// repaired replays some sectors, and crashes.
func (w twin) repaired(t *testing.T, draw func(int) int) twin {
	t.Helper()
	for sector, l := range w.model.sectors {
		if len(l) > 1 && draw(4) > 0 {
			w = w.do(t, op{kind: replay, at: sector, back: draw(2)})
		}
	}
	return w.do(t, op{kind: crash})
}

// P22.7: from each store several others are made, and none of them changes another one.
func TestBranches(t *testing.T) {
	t.Parallel()
	draw := drawer(24)
	for _, n := range []int{1, 5, 17} {
		l := []twin{begin(t, config(n, min(n, 2), 1<<40, 2))}
		for k := range 150 {
			w := l[draw(len(l))]
			o := drawnOp(draw, n, k)
			if draw(5) == 0 {
				o = drawnEdit(draw, w.model)
			}
			l = append(l, w.do(t, o))
		}
		for _, w := range l {
			w.check(t)
			w.readAll(t)
		}
	}
}

// P22.7: great volumes, with all shards.
func TestGreat(t *testing.T) {
	t.Parallel()
	draw := drawer(25)
	for _, n := range []int{256, 257, 1025, 4096} {
		w := begin(t, config(n, 8, 1<<32, 2))
		for k, o := range []op{{kind: flush}, {kind: crash}, {kind: flush}, {kind: crash}} {
			for _, i := range []int{0, n - 1, draw(n), draw(n), draw(n)} {
				w = w.all(t, op{kind: write, at: i, data: plain(10*k + i)}, op{kind: read, at: i})
			}
			w = w.do(t, o)
		}
		for i := range n {
			_, b, e := w.store.Read(i)
			if b != w.array.Now[i] || e != api.OK {
				t.Fatalf("block %d of %d is %x, %d, want %x", i, n, b, e, w.array.Now[i])
			}
		}
		last := place{0, (n - 1) / 4}
		w = w.all(t, op{kind: erase, at: nodeSector(n, last, w.model.slots[number(n, last)])}, op{kind: read, at: n - 1}, op{kind: crash}, op{kind: read, at: 0})
		if !w.store.Poisoned() {
			t.Fatalf("%d blocks: the last group is not there", n)
		}
	}
}

// P22.7: all blocks of a great volume are written, and are there after a commit and a crash.
func TestWhole(t *testing.T) {
	t.Parallel()
	const n = 1025
	w := begin(t, plenty(n, 8))
	s := w.store
	var e api.Errno
	for i := range n {
		if s, e = s.Write(i, plain(i+1)); e != api.OK {
			t.Fatal(e)
		}
	}
	if s, e = s.Flush(); e != api.OK {
		t.Fatal(e)
	}
	if s, e = s.Crash(); e != api.OK || s.Poisoned() {
		t.Fatal(e)
	}
	all, at, e := recovers.All(n, s.Disk(), s.Cell(), derives.Volume(plenty(n, 8).Master))
	if at != 0 || e != api.OK {
		t.Fatal(at, e)
	}
	for i := range n {
		_, b, e := s.Read(i)
		if b != api.Block(plain(i+1)) || b != all[i] || e != api.OK {
			t.Fatalf("block %d is %x, %d", i, b, e)
		}
	}
	if _, _, found := ledgers.Repeats(s.Ledger()); found || len(s.Ledger().Uses) != n {
		t.Fatal("the ledger has a clash")
	}
	if at, e := cells.Sound(n, s.Log()); at != 0 || e != api.OK || s.Cell().Epoch != 1 || s.Cell().Mark != (n+7)/8 {
		t.Fatal(at, e, s.Cell())
	}
	w.check(t)
}
