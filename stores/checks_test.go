package stores_test

import (
	"bytes"
	"math"
	"reflect"
	"slices"
	"testing"

	"caisson/api"
	"caisson/arrays"
	"caisson/cells"
	"caisson/disks"
	"caisson/ledgers"
	"caisson/stores"
)

// twin is a store with its model, and with the array that it has to behave like.
type twin struct {
	store  stores.Store
	model  model
	array  arrays.Array
	edited bool
}

// op is an operation on a store, or something else that happens to it.
type op struct {
	kind kind
	at   int    // the block, or the sector
	data []byte // of a write, or an edit
	back int    // of a replay
}

type kind int

const (
	read kind = iota
	write
	flush
	crash
	edit
	erase
	replay
)

// plain returns data that is different for each number, and not zero.
func plain(k int) []byte {
	b := bytes.Repeat([]byte{byte(5 * k), byte(k >> 8)}, 16)
	b[0], b[1], b[2], b[31] = 1, byte(k), byte(k>>8), 255
	return b
}

// drawer returns a function whose results are always the same sequence of numbers without a visible rule.
func drawer(seed uint64) func(below int) int {
	return func(below int) int {
		seed += 0x9e3779b97f4a7c15
		z := (seed ^ seed>>30) * 0xbf58476d1ce4e5b9
		z = (z ^ z>>27) * 0x94d049bb133111eb
		return int((z ^ z>>31) >> 1 % uint64(below))
	}
}

func master(k int) api.Key {
	var key api.Key
	for i := range key {
		key[i] = byte(k + 3*i)
	}
	return key
}

// config returns a configuration whose other fields do not matter.
func config(blocks, shards int, limit, reserve uint64) api.Config {
	return api.Config{Blocks: blocks, Shards: shards, Frames: -1, Clients: 99, Limit: limit, Reserve: reserve, Master: master(blocks + shards), Flaw: 200}
}

// plenty is a configuration whose mark rises by one, and always can.
func plenty(blocks, shards int) api.Config { return config(blocks, shards, math.MaxUint64, 1) }

// begin opens a store, and checks what it is at the beginning.
func begin(t *testing.T, c api.Config) twin {
	t.Helper()
	s, e := stores.Open(c)
	if e != api.OK {
		t.Fatalf("Open(%+v): error %d", c, e)
	}
	a, e := arrays.New(c.Blocks)
	if e != api.OK {
		t.Fatal(e)
	}
	w := twin{store: s, model: modelOf(c), array: a}
	w.check(t)
	return w
}

// check checks whatever a store shows against its model, and that what it returns is new memory.
func (w twin) check(t *testing.T) {
	t.Helper()
	m := w.model
	if got := w.store.Blocks(); got != m.n {
		t.Fatalf("Blocks is %d, want %d", got, m.n)
	}
	if got := w.store.Poisoned(); got != m.poisoned {
		t.Fatalf("Poisoned is %v, want %v", got, m.poisoned)
	}
	if got := w.store.Cell(); got != m.cell() {
		t.Fatalf("the cell is %+v, want %+v", got, m.cell())
	}
	for range 2 {
		log, uses := w.store.Log(), w.store.Ledger().Uses
		if !slices.Equal(log, m.log) || cap(log) != len(log) {
			t.Fatalf("the log is %+v with room for %d, want %+v", log, cap(log), m.log)
		}
		if !slices.Equal(uses, m.uses) || cap(uses) != len(uses) {
			t.Fatalf("the ledger is %+v with room for %d, want %+v", uses, cap(uses), m.uses)
		}
		for i := range log {
			log[i] = api.Cell{Epoch: 77}
		}
		for i := range uses {
			uses[i] = ledgers.Use{Key: [16]byte{77}}
		}
	}
	w.checkDisk(t)
}

// checkDisk checks all contents that the sectors of the disk had.
func (w twin) checkDisk(t *testing.T) {
	t.Helper()
	d, changes := w.store.Disk(), 0
	if d.Size() != len(w.model.sectors) {
		t.Fatalf("the disk has %d sectors, want %d", d.Size(), len(w.model.sectors))
	}
	for sector, l := range w.model.sectors {
		if count, e := d.Versions(sector); count != len(l) || e != api.OK {
			t.Fatalf("sector %d has %d changes, %d, want %d", sector, count, e, len(l))
		}
		for k, c := range l {
			if got := contentOf(d.Version(sector, k+1)); got != c {
				t.Fatalf("sector %d had %+v after %d changes, want %+v", sector, got, k+1, c)
			}
		}
		changes += len(l)
	}
	if d.Changes() != changes {
		t.Fatalf("the disk has %d changes, want %d", d.Changes(), changes)
	}
}

func contentOf(b []byte, e api.Errno) content { return content{e == api.OK, string(b)} }

// checkLaws checks that the log is sound, and that the ledger has no clash.
func (w twin) checkLaws(t *testing.T) {
	t.Helper()
	if at, e := cells.Sound(w.store.Blocks(), w.store.Log()); at != 0 || e != api.OK {
		t.Fatalf("the log %+v is not sound: %d, %d", w.store.Log(), at, e)
	}
	if i, j, found := ledgers.Repeats(w.store.Ledger()); found {
		t.Fatalf("the uses %d and %d of the ledger clash: %+v", i, j, w.store.Ledger())
	}
	for _, u := range w.store.Ledger().Uses {
		if u.Range.Nonce.Counter >= w.store.Cell().Mark {
			t.Fatalf("the nonce %+v was used, but the mark is %d", u.Range.Nonce, w.store.Cell().Mark)
		}
	}
}

// call carries out an operation on a store.
func (o op) call(s stores.Store, data []byte) (after stores.Store, value api.Block, e api.Errno) {
	switch o.kind {
	case read:
		return s.Read(o.at)
	case write:
		after, e = s.Write(o.at, data)
	case flush:
		after, e = s.Flush()
	case crash:
		after, e = s.Crash()
	case edit:
		after, e = s.Edit(o.at, data)
	case erase:
		after, e = s.Erase(o.at)
	case replay:
		after, e = s.Replay(o.at, o.back)
	}
	return after, value, e
}

// want carries out an operation on a model.
func (o op) want(m model) (after model, value api.Block, e api.Errno) {
	switch o.kind {
	case read:
		return m.read(o.at)
	case write:
		after, e = m.write(o.at, o.data)
	case flush:
		after, e = m.flush()
	case crash:
		after = m.crash()
	case edit:
		after, e = m.edit(o.at, o.data)
	case erase:
		after, e = m.erase(o.at)
	case replay:
		after, e = m.replay(o.at, o.back)
	}
	return after, value, e
}

// do carries out an operation on a store and on its model, checks all that comes of it, and that the store before and the argument are as they were. It returns what there is after it.
func (w twin) do(t *testing.T, o op) twin {
	t.Helper()
	var value, wanted api.Block
	var e, err api.Errno
	next := w
	data := slices.Clone(o.data)
	next.store, value, e = o.call(w.store, data)
	next.model, wanted, err = o.want(w.model)
	if value != wanted || e != err {
		t.Fatalf("%+v of %d blocks, poisoned: %v, returned %x, %d, want %x, %d", o, w.model.n, w.model.poisoned, value, e, wanted, err)
	}
	if !bytes.Equal(data, o.data) {
		t.Fatalf("%+v changed its argument to %x", o, data)
	}
	for i := range data {
		data[i] ^= 0x55
	}
	if (e != api.OK || o.kind == read) && next.store.Poisoned() == w.store.Poisoned() && !reflect.DeepEqual(next.store, w.store) {
		t.Fatalf("%+v returned %d, and another store than the one before", o, e)
	}
	next.array = w.follow(t, o, value, e)
	next.edited = w.edited || o.kind >= edit
	next.check(t)
	next.checkLaws(t)
	w.check(t)
	return next
}

// all carries out operations one after another.
func (w twin) all(t *testing.T, l ...op) twin {
	t.Helper()
	for _, o := range l {
		w = w.do(t, o)
	}
	return w
}

// follow checks that a result is one that the array allows, and returns the array after it.
func (w twin) follow(t *testing.T, o op, value api.Block, e api.Errno) arrays.Array {
	t.Helper()
	if o.kind >= edit {
		return w.array
	}
	if o.kind == crash {
		next, err := arrays.Crash(w.array)
		if err != api.OK {
			t.Fatal(err)
		}
		return next
	}
	kinds := map[kind]api.OpKind{read: api.Read, write: api.Write, flush: api.Flush}
	next, r, err := arrays.Do(w.array, api.Op{Kind: kinds[o.kind], Index: o.at, Data: o.data})
	if err != api.OK {
		t.Fatal(err)
	}
	if e == api.OK || e == api.ErrArg {
		if r != (arrays.Result{Value: value, Err: e}) {
			t.Fatalf("%+v returned %x, %d, but the array says %x, %d", o, value, e, r.Value, r.Err)
		}
		return next
	}
	if !(e == api.ErrIntegrity && w.edited) && !(o.kind == write && r.Err == api.OK && (e == api.ErrNonce || e == api.ErrLimit)) {
		t.Fatalf("%+v returned %x, %d, but the array says %x, %d", o, value, e, r.Value, r.Err)
	}
	return w.array
}

// readAll reads each block. It goes on from the store before each Read, which may poison the one after it.
func (w twin) readAll(t *testing.T) {
	t.Helper()
	for i := range w.model.n {
		w.do(t, op{kind: read, at: i})
	}
}

// walk carries out all sequences of so many operations.
func (w twin) walk(t *testing.T, l []op, depth int) {
	t.Helper()
	if depth == 0 {
		return
	}
	for _, o := range l {
		w.do(t, o).walk(t, l, depth-1)
	}
}

// beyond returns indices that n blocks, or sectors, do not include: the nearest ones, the ends of int, and such that lose high bits into the range.
func beyond(n int) []int {
	return []int{-1, -2, -n, n, n + 1, 2*n + 1, 1<<16 + n - 1, 1 << 32, 1<<32 + n - 1, n - 1 - 1<<32, math.MinInt, math.MinInt + n - 1, math.MaxInt - 1, math.MaxInt}
}

// checkNone checks that a store is the zero one, and that its methods say so.
func checkNone(t *testing.T, s stores.Store) {
	t.Helper()
	if s.Blocks() != 0 || s.Cell() != (api.Cell{}) || len(s.Log()) != 0 || len(s.Ledger().Uses) != 0 || s.Poisoned() {
		t.Fatalf("the zero store has %d blocks, %+v, %+v, %+v, %v", s.Blocks(), s.Cell(), s.Log(), s.Ledger(), s.Poisoned())
	}
	if d := s.Disk(); d.Size() != 0 || d.Changes() != 0 || !disks.Same(d, disks.Disk{}) {
		t.Fatalf("the zero store has a disk of %d sectors", d.Size())
	}
}
