package stores

import (
	"errors"
	"math"
	"reflect"
	"slices"
	"testing"

	"caisson/api"
	"caisson/cells"
	"caisson/disks"
	"caisson/ledgers"
	"caisson/nonces"
)

func open(t *testing.T, c api.Config) Store {
	t.Helper()
	s, e := Open(c)
	if e != api.OK {
		t.Fatalf("Open(%+v): error %d", c, e)
	}
	return s
}

// grown returns a store as it would be after very many commits and reservations. Its root is moved to the slot that goes with the epoch.
func grown(t *testing.T, c api.Config, epoch, mark uint64) Store {
	t.Helper()
	s := open(t, c)
	cell := s.Cell()
	cell.Epoch, cell.Mark = epoch, mark
	s.log = s.log.with(cell)
	s.allocator = nonces.Allocator{Counters: slices.Repeat([]uint64{mark}, c.Shards), Mark: mark, Limit: c.Limit, Reserve: c.Reserve}
	root := len(s.disk.Present())
	sector := s.disk.Present()[root-1]
	b, _ := s.disk.Read(sector)
	var e api.Errno
	if s, e = s.Erase(sector); e != api.OK {
		t.Fatal(e)
	}
	if s, e = s.Edit(sector+cells.Slot(cell), b); e != api.OK {
		t.Fatal(e)
	}
	if s, e = s.Crash(); e != api.OK || s.Poisoned() {
		t.Fatal(e, s.Poisoned())
	}
	return s
}

// P22.4: the epoch rises up to the greatest number, and no further.
func TestLastEpoch(t *testing.T) {
	for _, n := range []int{1, 5, 17} {
		s := grown(t, api.Config{Blocks: n, Shards: 1, Limit: 9, Reserve: 1}, math.MaxUint64-1, 0)
		var e api.Errno
		x := api.Block{1, 2, 3}
		if s, e = s.Write(n-1, x[:]); e != api.OK {
			t.Fatal(e)
		}
		if s, e = s.Flush(); e != api.OK || s.Cell().Epoch != math.MaxUint64 {
			t.Fatal(e, s.Cell())
		}
		for _, crash := range []bool{false, true} {
			if crash {
				if s, e = s.Crash(); e != api.OK {
					t.Fatal(e)
				}
			}
			after, e := s.Flush()
			if e != api.ErrLimit || !reflect.DeepEqual(after, s) {
				t.Fatalf("Flush behind the last epoch: error %d", e)
			}
			if after, b, e := s.Read(n - 1); b != x || e != api.OK || after.Poisoned() {
				t.Fatal(b, e)
			}
			if after, e := s.Write(0, x[:]); e != api.OK || after.Cell().Epoch != math.MaxUint64 {
				t.Fatal(e)
			}
		}
		// A poisoned store says so first.
		if s, e = s.Erase(2 * (n - 1)); e != api.OK {
			t.Fatal(e)
		}
		if s, _, e = s.Read(n - 1); e != api.ErrIntegrity {
			t.Fatal(e)
		}
		if after, e := s.Flush(); e != api.ErrIntegrity || !reflect.DeepEqual(after, s) {
			t.Fatalf("Flush of a poisoned store: error %d", e)
		}
	}
}

// P22.3: marks up to the greatest number.
func TestLastMarks(t *testing.T) {
	x := make([]byte, 32)
	for _, reserve := range []uint64{1, 2, 3, 1 << 32} {
		for missing := range uint64(4) {
			mark := math.MaxUint64 - reserve - missing
			s := grown(t, api.Config{Blocks: 3, Shards: 2, Limit: math.MaxUint64 - 1, Reserve: reserve}, 7, mark)
			after, e := s.Write(1, x)
			if missing == 0 {
				if e != api.ErrNonce || !reflect.DeepEqual(after, s) {
					t.Fatalf("reserve %d: error %d", reserve, e)
				}
				continue
			}
			last := after.Ledger().Uses
			if e != api.OK || after.Cell().Mark != mark+reserve || last[0].Range.Nonce != (api.Nonce{Shard: 1, Counter: mark}) {
				t.Fatalf("reserve %d, %d missing: error %d, %+v", reserve, missing, e, after.Cell())
			}
			if after, e = after.Crash(); e != api.OK || after.Poisoned() || !slices.Equal(after.allocator.Counters, []uint64{mark + reserve, mark + reserve}) {
				t.Fatalf("after a crash: error %d, %+v", e, after.allocator)
			}
		}
	}
}

// The mark of the allocator is always that of the cell, a poisoned store has no tree, and with an error there is nothing but the store before.
func TestFields(t *testing.T) {
	s := open(t, api.Config{Blocks: 2, Shards: 2, Limit: 4, Reserve: 2})
	b := make([]byte, 32)
	for k := range 12 {
		after, e := s.Write(k%3, b)
		if e != api.OK && !reflect.DeepEqual(after, s) {
			t.Fatalf("Write: error %d, %+v, want %+v", e, after, s)
		}
		if k%5 == 4 {
			after, _ = after.Crash()
		}
		if s = after; s.allocator.Mark != s.Cell().Mark || len(s.tree.Nodes) != 1 {
			t.Fatalf("the allocator is %+v, the cell %+v", s.allocator, s.Cell())
		}
	}
	s, _ = open(t, api.Config{Blocks: 2, Shards: 2, Limit: 4, Reserve: 2}).Write(0, b)
	s, _ = s.Erase(0)
	s, _, e := s.Read(0)
	if e != api.ErrIntegrity || s.tree.Blocks != 0 || s.tree.Nodes != nil {
		t.Fatalf("%d, %+v", e, s.tree)
	}
	// All counters are the mark after a crash, also if there is no tree.
	s, _ = s.Erase(s.disk.Size() - 2)
	if s, e = s.Crash(); e != api.OK || !s.Poisoned() || !slices.Equal(s.allocator.Counters, []uint64{2, 2}) {
		t.Fatalf("%d, %+v", e, s.allocator)
	}
	if zero, e := Open(api.Config{Blocks: 2, Shards: 3, Limit: 4, Reserve: 2}); e != api.ErrConfig || !reflect.DeepEqual(zero, Store{}) {
		t.Fatalf("%d, %+v", e, zero)
	}
	for _, after := range []Store{first(Store{}.Write(0, b)), first(Store{}.Flush()), first(Store{}.Crash()), first(Store{}.Edit(0, b)), first(Store{}.Erase(0)), first(Store{}.Replay(0, 0))} {
		if !reflect.DeepEqual(after, Store{}) {
			t.Fatalf("%+v of the zero store", after)
		}
	}
}

func first(s Store, _ api.Errno) Store { return s }

// Ways: errors are wrapped, so that errors.Is finds the error of package api, and errors.As the failure.
func TestFailures(t *testing.T) {
	done := ""
	act := func(name string, e api.Errno) step {
		return step{name, func() api.Errno {
			done += name
			return e
		}}
	}
	if err := carryOut(act("a", api.OK), act("b", api.OK)); err != nil || errnoOf(err) != api.OK || done != "ab" {
		t.Fatal(err, done)
	}
	if err := carryOut(); err != nil {
		t.Fatal(err)
	}
	done = ""
	err := carryOut(act("a", api.OK), act("b", api.ErrState), act("c", api.ErrArg))
	var f failure
	if done != "ab" || !errors.Is(err, code(api.ErrState)) || errors.Is(err, code(api.ErrArg)) || !errors.As(err, &f) || f.step != "b" || errnoOf(err) != api.ErrState {
		t.Fatal(err, done)
	}
	if outer := (wrapper{err}); errnoOf(outer) != api.ErrState || !errors.Is(outer, code(api.ErrState)) {
		t.Fatal(outer)
	}
	if err.Error() != "b: error 10" || errors.Unwrap(err) == nil || errors.Unwrap(err).Error() != "error 10" {
		t.Fatal(err.Error())
	}
	if e := errnoOf(errors.New("another one")); e != api.OK {
		t.Fatal(e)
	}
}

type wrapper struct{ err error }

func (w wrapper) Error() string { return "outer" }
func (w wrapper) Unwrap() error { return w.err }

// Lists share what they have in common, and are not changed.
func TestLists(t *testing.T) {
	var none *link[int]
	if none.size() != 0 || none.last() != 0 || none.all() != nil {
		t.Fatal(none.all())
	}
	one := none.with(7)
	two, other := one.with(8), one.with(9)
	for range 2 {
		if !slices.Equal(one.all(), []int{7}) || !slices.Equal(two.all(), []int{7, 8}) || !slices.Equal(other.all(), []int{7, 9}) || none.all() != nil {
			t.Fatal(one.all(), two.all(), other.all())
		}
		two.all()[0] = 3
	}
	if two.size() != 2 || two.last() != 8 || other.last() != 9 || one.size() != 1 || cap(two.all()) != 2 {
		t.Fatal(two.size(), two.last())
	}
	long := none
	for k := range 100000 {
		long = long.with(k)
	}
	for k, x := range long.all() {
		if k != x {
			t.Fatal(k, x)
		}
	}
}

// The ledger and the disk of the zero store are the zero ones.
func TestZero(t *testing.T) {
	var s Store
	if !reflect.DeepEqual(s.Ledger(), ledgers.Ledger{}) || !reflect.DeepEqual(s.Disk(), disks.Disk{}) || s.Log() != nil {
		t.Fatal(s.Ledger(), s.Disk(), s.Log())
	}
}
