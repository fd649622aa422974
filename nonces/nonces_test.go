package nonces_test

import (
	"bytes"
	"cmp"
	"encoding/hex"
	"math"
	"slices"
	"sync"
	"testing"

	"caisson/api"
	"caisson/nonces"
)

const greatest = math.MaxUint64

type nonceExample struct {
	nonce api.Nonce
	bytes string
}

// Nonces in ascending order, with their bytes.
var ordered = []nonceExample{
	{api.Nonce{}, "000000000000000000000000"},
	{api.Nonce{Counter: 1}, "000000000000000000000001"},
	{api.Nonce{Counter: 2}, "000000000000000000000002"},
	{api.Nonce{Counter: 255}, "0000000000000000000000ff"},
	{api.Nonce{Counter: 256}, "000000000000000000000100"},
	{api.Nonce{Counter: 1<<32 - 1}, "0000000000000000ffffffff"},
	{api.Nonce{Counter: 1 << 32}, "000000000000000100000000"},
	{api.Nonce{Counter: 1<<63 - 1}, "000000007fffffffffffffff"},
	{api.Nonce{Counter: 1 << 63}, "000000008000000000000000"},
	{api.Nonce{Counter: greatest - 1}, "00000000fffffffffffffffe"},
	{api.Nonce{Counter: greatest}, "00000000ffffffffffffffff"},
	{api.Nonce{Shard: 1}, "000000010000000000000000"},
	{api.Nonce{Shard: 1, Counter: 1}, "000000010000000000000001"},
	{api.Nonce{Shard: 1, Counter: 258}, "000000010000000000000102"},
	{api.Nonce{Shard: 1, Counter: greatest}, "00000001ffffffffffffffff"},
	{api.Nonce{Shard: 2}, "000000020000000000000000"},
	{api.Nonce{Shard: 7, Counter: 1}, "000000070000000000000001"},
	{api.Nonce{Shard: 255}, "000000ff0000000000000000"},
	{api.Nonce{Shard: 256, Counter: 5}, "000001000000000000000005"},
	{api.Nonce{Shard: 0x01020304, Counter: 0x05060708090a0b0c}, "0102030405060708090a0b0c"},
	{api.Nonce{Shard: 1<<31 - 1, Counter: greatest}, "7fffffffffffffffffffffff"},
	{api.Nonce{Shard: 1 << 31}, "800000000000000000000000"},
	{api.Nonce{Shard: math.MaxUint32 - 1, Counter: greatest}, "fffffffeffffffffffffffff"},
	{api.Nonce{Shard: math.MaxUint32}, "ffffffff0000000000000000"},
	{api.Nonce{Shard: math.MaxUint32, Counter: 1}, "ffffffff0000000000000001"},
	{api.Nonce{Shard: math.MaxUint32, Counter: greatest}, "ffffffffffffffffffffffff"},
}

// counters returns counters with values.
func counters(values ...uint64) []uint64 { return values }

// allocator returns an allocator with fields in their order.
func allocator(c []uint64, mark, limit, reserve uint64) nonces.Allocator {
	return nonces.Allocator{Counters: c, Mark: mark, Limit: limit, Reserve: reserve}
}

// Allocators that are valid, among them those at each limit.
var valid = []nonces.Allocator{
	allocator(counters(0), 0, 1, 1),
	allocator(counters(0), 1, 1, 1),
	allocator(counters(1), 1, 1, 1),
	allocator(counters(0, 0), 0, 10, 4),
	allocator(counters(0, 1), 4, 10, 4),
	allocator(counters(4, 3), 4, 10, 4),
	allocator(counters(4, 4), 4, 10, 4),
	allocator(counters(8, 0), 8, 10, 4),
	allocator(counters(3, 9), 9, 10, 4),
	allocator(counters(10, 9), 10, 10, 4),
	allocator(counters(0, 10), 10, 10, 10),
	allocator(counters(0, 1, 2, 3, 4, 5, 6), 7, 100, 50),
	allocator(counters(0, 1, 2, 3, 4, 5, 6, 7), 7, 100, 99),
	allocator(counters(7, 7, 7, 7, 7, 7, 7, 7), 7, 100, 100),
	allocator(counters(5), 5, 1<<32-1, 1<<32-1),
	allocator(counters(5), 5, 1<<32, 1<<32),
	allocator(counters(5), 6, 1<<32+1, 1<<32),
	allocator(counters(0), 1<<32, 1<<33, 1<<32),
	allocator(counters(0, greatest), greatest, greatest, 1<<32),
	allocator(counters(0, greatest-1), greatest, greatest, 1),
	allocator(counters(0, greatest-1), greatest-1, greatest, 1),
	allocator(counters(greatest-1<<32), greatest-1<<32, greatest, 1<<32),
	allocator(counters(greatest-1<<32), greatest-1<<32+1, greatest, 1<<32),
	allocator(counters(1<<63-1, 1<<63), 1<<63, greatest, 1<<31),
}

// Allocators that are not valid, each but the last ones for a single reason.
var invalid = []nonces.Allocator{
	allocator(nil, 0, 10, 4),
	allocator(counters(), 4, 10, 4),
	allocator(counters(0, 0, 0, 0, 0, 0, 0, 0, 0), 0, 10, 4),
	allocator(counters(0, 0, 0, 0, 0, 0, 0, 0, 0), 4, 10, 4),
	allocator(make([]uint64, 16), 4, 10, 4),
	allocator(make([]uint64, 256), 4, 10, 4),
	allocator(counters(1), 0, 10, 4),
	allocator(counters(5), 4, 10, 4),
	allocator(counters(5, 0), 4, 10, 4),
	allocator(counters(0, 5), 4, 10, 4),
	allocator(counters(0, 5, 0), 4, 10, 4),
	allocator(counters(0, 0, 0, 0, 0, 0, 0, 5), 4, 10, 4),
	allocator(counters(11), 10, 10, 4),
	allocator(counters(greatest), 10, greatest, 4),
	allocator(counters(greatest), greatest-1, greatest, 4),
	allocator(counters(0), 11, 10, 4),
	allocator(counters(0, 4), 11, 10, 10),
	allocator(counters(11, 11), 11, 10, 4),
	allocator(counters(0), greatest, greatest-1, 4),
	allocator(counters(0), 0, 10, 0),
	allocator(counters(0), 4, 10, 0),
	allocator(counters(0), 10, 10, 0),
	allocator(counters(0), 4, greatest, 1<<32+1),
	allocator(counters(0), 4, greatest, 1<<33),
	allocator(counters(0), 4, greatest, 1<<63),
	allocator(counters(0), 4, greatest, greatest),
	allocator(counters(0), 0, 3, 4),
	allocator(counters(3), 3, 3, 4),
	allocator(counters(0), 0, 9, 10),
	allocator(counters(0), 0, 0, 1),
	allocator(counters(0), 0, 1<<32-1, 1<<32),
	allocator(counters(0, 0), 0, 0, 0),
	allocator(counters(5, 6), 0, 0, 0),
	allocator(nil, 0, 0, 0),
	allocator(counters(greatest), 0, 0, greatest),
}

func clone(a nonces.Allocator) nonces.Allocator {
	a.Counters = slices.Clone(a.Counters)
	return a
}

func equal(a, b nonces.Allocator) bool {
	return slices.Equal(a.Counters, b.Counters) && a.Mark == b.Mark && a.Limit == b.Limit && a.Reserve == b.Reserve
}

func isZero(a nonces.Allocator) bool { return equal(a, nonces.Allocator{}) }

func fromHex(t *testing.T, text string) []byte {
	t.Helper()
	b, err := hex.DecodeString(text)
	if err != nil {
		t.Fatal(err)
	}
	return b
}

func newAllocator(t *testing.T, shards int, limit, reserve uint64) nonces.Allocator {
	t.Helper()
	a, e := nonces.New(shards, limit, reserve)
	if e != api.OK {
		t.Fatalf("New(%d, %d, %d): error %d", shards, limit, reserve, e)
	}
	return a
}

func extend(t *testing.T, a nonces.Allocator) nonces.Allocator {
	t.Helper()
	next, e := nonces.Extend(a)
	if e != api.OK {
		t.Fatalf("Extend(%v): error %d", a, e)
	}
	return next
}

// P8.1: ordinary nonces, 0, 1 and the greatest numbers.
func TestPut(t *testing.T) {
	for _, x := range ordered {
		if got := nonces.Put(x.nonce); !bytes.Equal(got, fromHex(t, x.bytes)) {
			t.Errorf("Put(%v) = %x, want %s", x.nonce, got, x.bytes)
		}
	}
}

// P8.1, R4
func TestPutReturnsNewMemory(t *testing.T) {
	n := api.Nonce{Shard: 1, Counter: 258}
	first := nonces.Put(n)
	if len(first) != 12 || cap(first) != 12 {
		t.Errorf("%d bytes with a capacity of %d", len(first), cap(first))
	}
	clear(first)
	if second := nonces.Put(n); !bytes.Equal(second, fromHex(t, "000000010000000000000102")) {
		t.Errorf("after a change of the first result: %x", second)
	}
}

// P8.1
func TestGet(t *testing.T) {
	for _, x := range ordered {
		if got, e := nonces.Get(fromHex(t, x.bytes)); got != x.nonce || e != api.OK {
			t.Errorf("Get(%s) = %v, %d, want %v", x.bytes, got, e, x.nonce)
		}
	}
}

// P8.1: each byte has its place.
func TestGetOfEachByte(t *testing.T) {
	for i := range 12 {
		for _, value := range []byte{0x01, 0x80, 0xff} {
			b := make([]byte, 12)
			b[i] = value
			var want api.Nonce
			if i < 4 {
				want.Shard = uint32(value) << (8 * (3 - i))
			} else {
				want.Counter = uint64(value) << (8 * (11 - i))
			}
			if got, e := nonces.Get(b); got != want || e != api.OK {
				t.Errorf("Get(%x) = %v, %d, want %v", b, got, e, want)
			}
			if got := nonces.Put(want); !bytes.Equal(got, b) {
				t.Errorf("Put(%v) = %x, want %x", want, got, b)
			}
		}
	}
}

// P8.1, R3: too few and too many bytes; with an error there is no nonce. Bytes behind the end, in the capacity, do not count.
func TestGetLengths(t *testing.T) {
	ones := bytes.Repeat([]byte{0xff}, 4096)
	lengths := []int{14, 15, 16, 23, 24, 25, 36, 255, 256, 268, 1000, 4096}
	for n := range 14 {
		lengths = append(lengths, n)
	}
	for _, n := range lengths {
		want, e := api.Nonce{}, api.OK
		switch {
		case n < 12:
			e = api.ErrShort
		case n > 12:
			e = api.ErrForm
		default:
			want = api.Nonce{Shard: math.MaxUint32, Counter: greatest}
		}
		for _, b := range [][]byte{ones[:n], ones[:n:n], make([]byte, n)} {
			if n == 12 && b[0] == 0 {
				want = api.Nonce{}
			}
			if got, f := nonces.Get(b); got != want || f != e {
				t.Errorf("Get of %d bytes: %v, %d, want %v, %d", n, got, f, want, e)
			}
		}
	}
	if got, e := nonces.Get(nil); got != (api.Nonce{}) || e != api.ErrShort {
		t.Errorf("Get(nil) = %v, %d", got, e)
	}
}

// P8.1, R4
func TestGetKeepsBytes(t *testing.T) {
	for n := range 20 {
		b := bytes.Repeat([]byte{0xa5}, n)
		nonces.Get(b)
		if !bytes.Equal(b, bytes.Repeat([]byte{0xa5}, n)) {
			t.Errorf("the %d bytes were modified: %x", n, b)
		}
	}
}

// P8.1, P8.6: all pairs, against their places in the order and against the order of their bytes.
func TestCompare(t *testing.T) {
	for i, a := range ordered {
		for k, b := range ordered {
			got := nonces.Compare(a.nonce, b.nonce)
			if got != cmp.Compare(i, k) {
				t.Errorf("Compare(%v, %v) = %d, want %d", a.nonce, b.nonce, got, cmp.Compare(i, k))
			}
			if want := bytes.Compare(nonces.Put(a.nonce), nonces.Put(b.nonce)); got != want {
				t.Errorf("Compare(%v, %v) = %d, the bytes %d", a.nonce, b.nonce, got, want)
			}
		}
	}
}

// P8.6: many other nonces, whose numbers are near the ends of bytes.
func TestOrderIsThatOfBytes(t *testing.T) {
	numbers := []uint64{0, 1, 0x7f, 0x80, 0xff, 0x100, 0xffff, 0x10000, 0x01ff, 0xff01, 1<<31 - 1, 1 << 31, 1<<32 - 1}
	var list []api.Nonce
	for _, shard := range numbers {
		for _, counter := range numbers {
			list = append(list, api.Nonce{Shard: uint32(shard), Counter: counter}, api.Nonce{Shard: uint32(shard), Counter: counter<<32 | shard})
		}
	}
	for _, a := range list {
		for _, b := range list {
			if got, want := nonces.Compare(a, b), bytes.Compare(nonces.Put(a), nonces.Put(b)); got != want {
				t.Fatalf("Compare(%v, %v) = %d, the bytes %d", a, b, got, want)
			}
		}
	}
}

// P8.6: in both directions.
func TestGetInvertsPut(t *testing.T) {
	for _, x := range ordered {
		if got, e := nonces.Get(nonces.Put(x.nonce)); got != x.nonce || e != api.OK {
			t.Errorf("Get(Put(%v)) = %v, %d", x.nonce, got, e)
		}
	}
	draw := drawer(1)
	for range 2000 {
		n := api.Nonce{Shard: uint32(draw()), Counter: draw()}
		b := nonces.Put(n)
		got, e := nonces.Get(b)
		if got != n || e != api.OK || !bytes.Equal(nonces.Put(got), b) {
			t.Fatalf("Get(Put(%v)) = %v, %d", n, got, e)
		}
	}
}

// drawer returns a function whose results are always the same sequence of numbers without a visible rule.
func drawer(seed uint64) func() uint64 {
	return func() uint64 {
		seed += 0x9e3779b97f4a7c15
		z := (seed ^ seed>>30) * 0xbf58476d1ce4e5b9
		z = (z ^ z>>27) * 0x94d049bb133111eb
		return z ^ z>>31
	}
}

// P8.2
func TestCheck(t *testing.T) {
	for _, a := range valid {
		if e := nonces.Check(a); e != api.OK {
			t.Errorf("Check(%v) = %d", a, e)
		}
	}
	for _, a := range invalid {
		if e := nonces.Check(a); e != api.ErrArg {
			t.Errorf("Check(%v) = %d, want ErrArg", a, e)
		}
	}
	if e := nonces.Check(nonces.Allocator{}); e != api.ErrArg {
		t.Errorf("Check of the zero Allocator = %d, want ErrArg", e)
	}
}

// P8.2: each number of counters, and in each place a counter below, at and above the mark.
func TestCheckOfEachCounter(t *testing.T) {
	for n := 0; n <= 10; n++ {
		for place := range max(n, 1) {
			for counter := uint64(8); counter <= 10; counter++ {
				a := allocator(make([]uint64, n), 9, 20, 3)
				if n > 0 {
					a.Counters[place] = counter
				}
				want := api.OK
				if n == 0 || n > 8 || counter > 9 {
					want = api.ErrArg
				}
				if e := nonces.Check(a); e != want {
					t.Errorf("Check(%v) = %d, want %d", a, e, want)
				}
			}
		}
	}
}

// P8.2: all marks, limits and reserves up to 6, against the definition.
func TestCheckOfSmallNumbers(t *testing.T) {
	for mark := range uint64(7) {
		for limit := range uint64(7) {
			for reserve := range uint64(7) {
				for counter := range uint64(7) {
					want := api.ErrArg
					if counter <= mark && mark <= limit && 1 <= reserve && reserve <= limit {
						want = api.OK
					}
					a := allocator(counters(counter, 0), mark, limit, reserve)
					if e := nonces.Check(a); e != want {
						t.Errorf("Check(%v) = %d, want %d", a, e, want)
					}
				}
			}
		}
	}
}

// P8.2, R3, R4: the chapter's examples among others; with an error there is no allocator.
func TestNew(t *testing.T) {
	for _, x := range []struct {
		shards         int
		limit, reserve uint64
		e              api.Errno
	}{
		{2, 10, 4, api.OK},
		{1, 10, 4, api.OK},
		{8, 10, 4, api.OK},
		{1, 1, 1, api.OK},
		{8, 4, 4, api.OK},
		{1, 1 << 32, 1 << 32, api.OK},
		{1, 1 << 32, 1<<32 - 1, api.OK},
		{8, greatest, 1 << 32, api.OK},
		{3, greatest, 1, api.OK},
		{0, 10, 4, api.ErrArg},
		{9, 10, 4, api.ErrArg},
		{1, 3, 4, api.ErrArg},
		{1, 3, 0, api.ErrArg},
		{-1, 10, 4, api.ErrArg},
		{-8, 10, 4, api.ErrArg},
		{10, 10, 4, api.ErrArg},
		{264, 10, 4, api.ErrArg},
		{1<<32 + 1, 10, 4, api.ErrArg},
		{math.MinInt, 10, 4, api.ErrArg},
		{math.MinInt + 1, 10, 4, api.ErrArg},
		{math.MaxInt, 10, 4, api.ErrArg},
		{1, 0, 0, api.ErrArg},
		{1, 0, 1, api.ErrArg},
		{1, greatest, 0, api.ErrArg},
		{1, greatest, 1<<32 + 1, api.ErrArg},
		{1, greatest, greatest, api.ErrArg},
		{1, 1<<32 - 1, 1 << 32, api.ErrArg},
		{0, 3, 4, api.ErrArg},
		{9, 10, 0, api.ErrArg},
		{math.MaxInt, 0, greatest, api.ErrArg},
	} {
		got, e := nonces.New(x.shards, x.limit, x.reserve)
		want := nonces.Allocator{}
		if x.e == api.OK {
			want = allocator(make([]uint64, x.shards), 0, x.limit, x.reserve)
		}
		if e != x.e || !equal(got, want) || cap(got.Counters) != len(got.Counters) {
			t.Errorf("New(%d, %d, %d) = %v, %d, want %v, %d", x.shards, x.limit, x.reserve, got, e, want, x.e)
		}
	}
}

// P8.2: New makes what Check accepts, and nothing else.
func TestNewIsValid(t *testing.T) {
	numbers := []uint64{0, 1, 2, 3, 1<<32 - 1, 1 << 32, 1<<32 + 1, greatest - 1, greatest}
	for shards := range 10 {
		for _, limit := range numbers {
			for _, reserve := range numbers {
				want := nonces.Check(allocator(make([]uint64, shards), 0, limit, reserve))
				got, e := nonces.New(shards, limit, reserve)
				if e != want || e == api.OK && nonces.Check(got) != api.OK {
					t.Errorf("New(%d, %d, %d) = %v, %d, want the error %d", shards, limit, reserve, got, e, want)
				}
			}
		}
	}
}

// R4
func TestNewReturnsNewMemory(t *testing.T) {
	a := newAllocator(t, 2, 10, 4)
	a.Counters[0], a.Counters[1] = 7, 8
	if b := newAllocator(t, 2, 10, 4); !equal(b, allocator(counters(0, 0), 0, 10, 4)) {
		t.Errorf("after a change of the first result: %v", b)
	}
}

// P8.3 to P8.5: the examples of the chapter.
func TestExamples(t *testing.T) {
	a := newAllocator(t, 2, 10, 4)
	if n, next, e := nonces.Take(a, 0); n != (api.Nonce{}) || !isZero(next) || e != api.ErrState {
		t.Errorf("Take(A, 0) = %v, %v, %d", n, next, e)
	}
	if n, next, e := nonces.Take(a, 2); n != (api.Nonce{}) || !isZero(next) || e != api.ErrArg {
		t.Errorf("Take(A, 2) = %v, %v, %d", n, next, e)
	}
	if n, e := nonces.Left(a, 0); n != 0 || e != api.OK {
		t.Errorf("Left(A, 0) = %d, %d", n, e)
	}
	once := extend(t, a)
	n, next, e := nonces.Take(once, 1)
	if n != (api.Nonce{Shard: 1}) || !equal(next, allocator(counters(0, 1), 4, 10, 4)) || e != api.OK {
		t.Errorf("Take(Extend(A), 1) = %v, %v, %d", n, next, e)
	}
	twice := extend(t, once)
	if !equal(twice, allocator(counters(0, 0), 8, 10, 4)) {
		t.Errorf("Extend(Extend(A)) = %v", twice)
	}
	if next, e := nonces.Extend(twice); !isZero(next) || e != api.ErrNonce {
		t.Errorf("Extend(Extend(Extend(A))) = %v, %d", next, e)
	}
	crashed, e := nonces.Crash(once)
	if !equal(crashed, allocator(counters(4, 4), 4, 10, 4)) || e != api.OK {
		t.Errorf("Crash(Extend(A)) = %v, %d", crashed, e)
	}
	if n, e := nonces.Left(crashed, 0); n != 0 || e != api.OK {
		t.Errorf("Left(Crash(Extend(A)), 0) = %d, %d", n, e)
	}
}

// P8.3: each shard of valid allocators, against the definition.
func TestTake(t *testing.T) {
	for _, a := range valid {
		for shard, counter := range a.Counters {
			var want api.Nonce
			var next nonces.Allocator
			wantError := api.ErrState
			if counter < a.Mark {
				want, next, wantError = api.Nonce{Shard: uint32(shard), Counter: counter}, clone(a), api.OK
				next.Counters[shard] = counter + 1
			}
			n, got, e := nonces.Take(a, shard)
			if n != want || !equal(got, next) || e != wantError {
				t.Errorf("Take(%v, %d) = %v, %v, %d, want %v, %v, %d", a, shard, n, got, e, want, next, wantError)
			}
		}
	}
}

// P8.3: the greatest counters, which are below the greatest mark.
func TestTakeOfGreatestCounters(t *testing.T) {
	a := allocator(counters(0, greatest-2), greatest, greatest, 1)
	for counter := uint64(greatest - 2); counter < greatest; counter++ {
		n, next, e := nonces.Take(a, 1)
		if n != (api.Nonce{Shard: 1, Counter: counter}) || !equal(next, allocator(counters(0, counter+1), greatest, greatest, 1)) || e != api.OK {
			t.Fatalf("Take(%v, 1) = %v, %v, %d", a, n, next, e)
		}
		a = next
	}
	if n, next, e := nonces.Take(a, 1); n != (api.Nonce{}) || !isZero(next) || e != api.ErrState {
		t.Errorf("Take(%v, 1) = %v, %v, %d, want ErrState", a, n, next, e)
	}
}

// badShards returns shards that are no index of counters.
func badShards(count int) []int {
	return []int{-1, -2, -count, count, count + 1, 8, 9, 1 << 32, 1<<32 + count, math.MaxInt32, math.MinInt32, math.MaxInt, math.MinInt, math.MinInt + 1}
}

// P8.3, P8.5, R3: shards that there are not, also if all counters are the mark (ErrArg comes before ErrState); the last shard is there.
func TestShards(t *testing.T) {
	for count := 1; count <= 8; count++ {
		for _, counter := range []uint64{0, 3, 4} {
			a := allocator(slices.Repeat(counters(counter), count), 4, 10, 4)
			for _, shard := range badShards(count) {
				if shard >= 0 && shard < count {
					continue
				}
				if n, next, e := nonces.Take(a, shard); n != (api.Nonce{}) || !isZero(next) || e != api.ErrArg {
					t.Errorf("Take(%v, %d) = %v, %v, %d, want ErrArg", a, shard, n, next, e)
				}
				if n, e := nonces.Left(a, shard); n != 0 || e != api.ErrArg {
					t.Errorf("Left(%v, %d) = %d, %d, want ErrArg", a, shard, n, e)
				}
			}
			wantError := api.OK
			if counter == 4 {
				wantError = api.ErrState
			}
			if _, _, e := nonces.Take(a, count-1); e != wantError {
				t.Errorf("Take(%v, %d): error %d, want %d", a, count-1, e, wantError)
			}
			if n, e := nonces.Left(a, count-1); n != 4-counter || e != api.OK {
				t.Errorf("Left(%v, %d) = %d, %d", a, count-1, n, e)
			}
		}
	}
}

// P8.3 to P8.5, R2, R3: allocators that are not valid are ErrArg, also where a counter is the mark (not ErrState), or the reserve is too great (not ErrNonce); nothing else is returned.
func TestInvalidAllocators(t *testing.T) {
	for _, a := range append([]nonces.Allocator{{}}, invalid...) {
		for _, shard := range append(badShards(len(a.Counters)), 0, 1, len(a.Counters)-1) {
			if n, next, e := nonces.Take(a, shard); n != (api.Nonce{}) || !isZero(next) || e != api.ErrArg {
				t.Errorf("Take(%v, %d) = %v, %v, %d, want ErrArg", a, shard, n, next, e)
			}
			if n, e := nonces.Left(a, shard); n != 0 || e != api.ErrArg {
				t.Errorf("Left(%v, %d) = %d, %d, want ErrArg", a, shard, n, e)
			}
		}
		if next, e := nonces.Extend(a); !isZero(next) || e != api.ErrArg {
			t.Errorf("Extend(%v) = %v, %d, want ErrArg", a, next, e)
		}
		if next, e := nonces.Crash(a); !isZero(next) || e != api.ErrArg {
			t.Errorf("Crash(%v) = %v, %d, want ErrArg", a, next, e)
		}
	}
}

// P8.3, P8.5: a counter above the mark in one shard makes the others useless, too.
func TestOneBadCounter(t *testing.T) {
	for bad := range 3 {
		a := allocator(counters(1, 1, 1), 4, 10, 4)
		a.Counters[bad] = 5
		for shard := range 3 {
			if _, _, e := nonces.Take(a, shard); e != api.ErrArg {
				t.Errorf("Take(%v, %d): error %d, want ErrArg", a, shard, e)
			}
			if _, e := nonces.Left(a, shard); e != api.ErrArg {
				t.Errorf("Left(%v, %d): error %d, want ErrArg", a, shard, e)
			}
		}
	}
}

// P8.4: a reserve below, at and above what lies between mark and limit, also with the greatest numbers.
func TestExtend(t *testing.T) {
	for _, x := range []struct {
		mark, limit, reserve uint64
		e                    api.Errno
	}{
		{0, 10, 4, api.OK},
		{4, 10, 4, api.OK},
		{5, 10, 4, api.OK},
		{6, 10, 4, api.OK},
		{7, 10, 4, api.ErrNonce},
		{8, 10, 4, api.ErrNonce},
		{10, 10, 4, api.ErrNonce},
		{0, 1, 1, api.OK},
		{1, 1, 1, api.ErrNonce},
		{0, 10, 10, api.OK},
		{1, 10, 10, api.ErrNonce},
		{0, 10, 9, api.OK},
		{1, 10, 9, api.OK},
		{2, 10, 9, api.ErrNonce},
		{9, 10, 1, api.OK},
		{10, 10, 1, api.ErrNonce},
		{0, 1 << 32, 1 << 32, api.OK},
		{1, 1 << 32, 1 << 32, api.ErrNonce},
		{1, 1<<32 + 1, 1 << 32, api.OK},
		{2, 1<<32 + 1, 1 << 32, api.ErrNonce},
		{0, greatest, 1 << 32, api.OK},
		{greatest - 1<<32 - 1, greatest, 1 << 32, api.OK},
		{greatest - 1<<32, greatest, 1 << 32, api.OK},
		{greatest - 1<<32 + 1, greatest, 1 << 32, api.ErrNonce},
		{greatest, greatest, 1 << 32, api.ErrNonce},
		{greatest - 1<<32, greatest - 1, 1 << 32, api.ErrNonce},
		{greatest - 1, greatest, 1, api.OK},
		{greatest, greatest, 1, api.ErrNonce},
		{greatest - 1, greatest - 1, 1, api.ErrNonce},
		{greatest - 2, greatest, 2, api.OK},
		{greatest - 1, greatest, 2, api.ErrNonce},
		{1<<63 - 1, 1 << 63, 1, api.OK},
		{1 << 63, 1 << 63, 1, api.ErrNonce},
	} {
		for _, c := range [][]uint64{{0}, {x.mark}, {0, x.mark / 2, x.mark}, make([]uint64, 8)} {
			a := allocator(c, x.mark, x.limit, x.reserve)
			want := nonces.Allocator{}
			if x.e == api.OK {
				want = allocator(c, x.mark+x.reserve, x.limit, x.reserve)
			}
			if got, e := nonces.Extend(a); e != x.e || !equal(got, want) {
				t.Errorf("Extend(%v) = %v, %d, want %v, %d", a, got, e, want, x.e)
			}
		}
	}
}

// P8.5
func TestCrash(t *testing.T) {
	for _, a := range valid {
		want := clone(a)
		for i := range want.Counters {
			want.Counters[i] = a.Mark
		}
		got, e := nonces.Crash(a)
		if e != api.OK || !equal(got, want) {
			t.Errorf("Crash(%v) = %v, %d, want %v", a, got, e, want)
		}
		if again, e := nonces.Crash(got); e != api.OK || !equal(again, want) {
			t.Errorf("Crash(Crash(%v)) = %v, %d, want %v", a, again, e, want)
		}
	}
}

// P8.5: in valid allocators, and after a crash.
func TestLeft(t *testing.T) {
	for _, a := range valid {
		crashed, _ := nonces.Crash(a)
		for shard, counter := range a.Counters {
			if n, e := nonces.Left(a, shard); n != a.Mark-counter || e != api.OK {
				t.Errorf("Left(%v, %d) = %d, %d, want %d", a, shard, n, e, a.Mark-counter)
			}
			if n, e := nonces.Left(crashed, shard); n != 0 || e != api.OK {
				t.Errorf("Left(%v, %d) = %d, %d, want 0", crashed, shard, n, e)
			}
		}
	}
	for _, a := range []nonces.Allocator{allocator(counters(3, 0, 1), 4, 10, 4), allocator(counters(1, greatest), greatest, greatest, 4)} {
		want := counters(1, 4, 3)
		if len(a.Counters) == 2 {
			want = counters(greatest-1, 0)
		}
		for shard := range a.Counters {
			if n, e := nonces.Left(a, shard); n != want[shard] || e != api.OK {
				t.Errorf("Left(%v, %d) = %d, %d, want %d", a, shard, n, e, want[shard])
			}
		}
	}
}

// P8.3, P8.5: a shard gives out as many nonces as Left says, one after another, and the others keep theirs.
func TestTakeUntilNothingIsLeft(t *testing.T) {
	a := allocator(counters(5, 2, 0), 40, 40, 7)
	for shard := range a.Counters {
		left, _ := nonces.Left(a, shard)
		first := a.Counters[shard]
		for i := range left {
			n, next, e := nonces.Take(a, shard)
			if n != (api.Nonce{Shard: uint32(shard), Counter: first + i}) || e != api.OK {
				t.Fatalf("Take(%v, %d) = %v, %v, %d", a, shard, n, next, e)
			}
			if now, _ := nonces.Left(next, shard); now != left-i-1 {
				t.Fatalf("Left(%v, %d) = %d, want %d", next, shard, now, left-i-1)
			}
			a = next
		}
		if _, _, e := nonces.Take(a, shard); e != api.ErrState {
			t.Errorf("Take(%v, %d): error %d, want ErrState", a, shard, e)
		}
	}
	if !equal(a, allocator(counters(40, 40, 40), 40, 40, 7)) {
		t.Errorf("at the end: %v", a)
	}
}

// acts are the functions that return an allocator, each as one of the allocator alone.
func acts(shards int) []func(nonces.Allocator) (nonces.Allocator, api.Errno) {
	list := []func(nonces.Allocator) (nonces.Allocator, api.Errno){nonces.Extend, nonces.Crash}
	for shard := range shards {
		list = append(list, func(a nonces.Allocator) (nonces.Allocator, api.Errno) {
			_, next, e := nonces.Take(a, shard)
			return next, e
		})
	}
	return list
}

// Definitions, R4: no function changes the allocator that it gets, also where it returns an error, and also behind the end of its counters.
func TestAllocatorsAreNotChanged(t *testing.T) {
	for _, a := range slices.Concat(valid, invalid) {
		memory := append(slices.Clone(a.Counters), 77, 78, 79)
		before := slices.Clone(memory)
		a.Counters = memory[:len(a.Counters)]
		kept := clone(a)
		for _, act := range acts(len(a.Counters) + 1) {
			act(a)
		}
		nonces.Check(a)
		for shard := -1; shard <= len(a.Counters); shard++ {
			nonces.Left(a, shard)
		}
		if !slices.Equal(memory, before) || !equal(a, kept) {
			t.Errorf("the allocator %v was changed: %v", kept, memory)
		}
	}
}

// R4: what is returned shares no counters with what was given, or with another result, and has no spare capacity.
func TestResultsAreNewMemory(t *testing.T) {
	for _, original := range valid {
		for i, act := range acts(len(original.Counters)) {
			a := clone(original)
			got, e := act(a)
			if e != api.OK {
				continue
			}
			if cap(got.Counters) != len(got.Counters) {
				t.Errorf("act %d of %v: %d counters with a capacity of %d", i, original, len(got.Counters), cap(got.Counters))
			}
			kept := clone(got)
			again, _ := act(a)
			for k := range a.Counters {
				a.Counters[k] += 1000
			}
			if !equal(got, kept) {
				t.Errorf("act %d of %v: the result shares memory with the argument", i, original)
			}
			clear(got.Counters)
			if !equal(again, kept) {
				t.Errorf("act %d of %v: the result shares memory with another one", i, original)
			}
		}
	}
}

// run is a sequence of Take, Extend and Crash, and what has to hold of it.
type run struct {
	t     *testing.T
	now   nonces.Allocator
	taken map[api.Nonce]bool
}

func newRun(t *testing.T, a nonces.Allocator) *run {
	return &run{t, a, map[api.Nonce]bool{}}
}

// after goes on with the allocator that an act returned, or with the one before if it returned an error.
func (r *run) after(next nonces.Allocator, e api.Errno) {
	r.t.Helper()
	if e != api.OK {
		if !isZero(next) {
			r.t.Fatalf("with the error %d: %v", e, next)
		}
		return
	}
	if nonces.Check(next) != api.OK || next.Mark < r.now.Mark || next.Limit != r.now.Limit || next.Reserve != r.now.Reserve || len(next.Counters) != len(r.now.Counters) {
		r.t.Fatalf("after %v: %v", r.now, next)
	}
	for shard, counter := range next.Counters {
		if counter < r.now.Counters[shard] {
			r.t.Fatalf("a counter fell: after %v: %v", r.now, next)
		}
	}
	r.now = next
}

func (r *run) take(shard int) {
	r.t.Helper()
	before := r.now
	n, next, e := nonces.Take(before, shard)
	r.after(next, e)
	if e != api.OK {
		if n != (api.Nonce{}) || before.Counters[shard] != before.Mark {
			r.t.Fatalf("Take(%v, %d) = %v, %d", before, shard, n, e)
		}
		return
	}
	if r.taken[n] {
		r.t.Fatalf("Take(%v, %d) returns %v again", before, shard, n)
	}
	if n.Shard != uint32(shard) || n.Counter >= r.now.Mark || n.Counter >= before.Mark {
		r.t.Fatalf("Take(%v, %d) returns %v", before, shard, n)
	}
	r.taken[n] = true
}

func (r *run) extend() {
	r.t.Helper()
	before := r.now
	next, e := nonces.Extend(before)
	r.after(next, e)
	if (e == api.ErrNonce) != (before.Limit-before.Mark < before.Reserve) {
		r.t.Fatalf("Extend(%v): error %d", before, e)
	}
}

func (r *run) crash() {
	r.t.Helper()
	next, e := nonces.Crash(r.now)
	if e != api.OK {
		r.t.Fatalf("Crash(%v): error %d", r.now, e)
	}
	r.after(next, e)
}

// act carries out the act with a number: Extend, Crash, or Take of a shard.
func (r *run) act(number int) {
	r.t.Helper()
	switch number {
	case 0:
		r.extend()
	case 1:
		r.crash()
	default:
		r.take(number - 2)
	}
}

// P8.6: all sequences of eight acts on small allocators.
func TestAllShortSequences(t *testing.T) {
	for _, a := range []nonces.Allocator{newAllocator(t, 1, 3, 1), newAllocator(t, 1, 5, 2), newAllocator(t, 2, 4, 2)} {
		numbers := len(a.Counters) + 2
		count := 1
		for range 8 {
			count *= numbers
		}
		for sequence := range count {
			r := newRun(t, a)
			for rest := sequence + count; rest >= numbers; rest /= numbers {
				r.act(rest % numbers)
			}
		}
	}
}

// P8.6: long sequences, with many acts of each kind, until no nonce is left, and beyond.
func TestLongSequences(t *testing.T) {
	for shards := 1; shards <= api.MaxShards; shards++ {
		for _, reserve := range []uint64{1, 3, 16, 100} {
			// The limit is behind the last mark, if it can be.
			last := 150 * reserve
			r := newRun(t, newAllocator(t, shards, last+reserve/2, reserve))
			draw := drawer(uint64(shards)*1000 + reserve)
			refused := 0
			for range 10000 {
				// Most acts take a nonce, and the others are rare enough to leave some.
				number := 2 + int(draw()%uint64(shards))
				switch draw() % 100 {
				case 0, 1, 2:
					number = 0
				case 3:
					number = 1
				}
				before := len(r.taken)
				r.act(number)
				if number > 1 && len(r.taken) == before {
					refused++
				}
			}
			if r.now.Mark != last || len(r.taken) == 0 || refused == 0 {
				t.Errorf("%d shards, a reserve of %d: %d nonces, %d refused, at the end %v", shards, reserve, len(r.taken), refused, r.now)
			}
		}
	}
}

// P8.6: the same up to the greatest numbers.
func TestSequencesAtTheEnd(t *testing.T) {
	for _, reserve := range []uint64{1, 7, 1 << 32} {
		mark := greatest - 20*reserve - 3
		if reserve == 1<<32 {
			mark = greatest - 2*reserve
		}
		r := newRun(t, allocator(counters(mark, mark, mark), mark, greatest, reserve))
		draw := drawer(reserve)
		for range 3000 {
			number := 2 + int(draw()%3)
			switch draw() % 40 {
			case 0:
				number = 0
			case 1:
				number = 1
			}
			r.act(number)
		}
		if left := greatest - r.now.Mark; left >= reserve || len(r.taken) == 0 {
			t.Errorf("a reserve of %d: %d nonces, at the end %v", reserve, len(r.taken), r.now)
		}
	}
}

// P8.6: without crashes every nonce below the mark is given out once; a crash loses those that were left.
func TestAllNoncesAreGivenOut(t *testing.T) {
	r := newRun(t, newAllocator(t, 3, 12, 4))
	for range 3 {
		r.extend()
		for i := range 15 {
			r.take(i % 3)
		}
	}
	for shard := range uint32(3) {
		for counter := range uint64(12) {
			if !r.taken[api.Nonce{Shard: shard, Counter: counter}] {
				t.Errorf("shard %d, counter %d was not given out", shard, counter)
			}
		}
	}
	r = newRun(t, newAllocator(t, 2, 12, 4))
	r.extend()
	r.take(0)
	r.crash()
	r.take(0)
	r.extend()
	r.take(0)
	r.take(1)
	want := map[api.Nonce]bool{{}: true, {Counter: 4}: true, {Shard: 1, Counter: 4}: true}
	if len(r.taken) != len(want) {
		t.Errorf("given out: %v", r.taken)
	}
	for n := range want {
		if !r.taken[n] {
			t.Errorf("%v was not given out", n)
		}
	}
}

// R5: a result does not depend on the calls before, or on those at the same time.
func TestCallsAreIndependent(t *testing.T) {
	shared := allocator(counters(1, 2, 3), 50, 100, 10)
	work := func(i int) (n api.Nonce, list []nonces.Allocator) {
		n, a, _ := nonces.Take(shared, i%3)
		b, _ := nonces.Extend(a)
		c, _ := nonces.Crash(b)
		return n, []nonces.Allocator{a, b, c}
	}
	var group sync.WaitGroup
	var firsts, seconds [30]api.Nonce
	var first, second [30][]nonces.Allocator
	for i := range first {
		firsts[i], first[i] = work(i)
	}
	for i := range second {
		group.Go(func() { seconds[i], second[i] = work(i) })
	}
	group.Wait()
	for i := range first {
		if firsts[i] != seconds[i] || !slices.EqualFunc(first[i], second[i], equal) {
			t.Errorf("the calls %d returned different results", i)
		}
	}
	if !equal(shared, allocator(counters(1, 2, 3), 50, 100, 10)) {
		t.Errorf("the allocator was changed: %v", shared)
	}
}
