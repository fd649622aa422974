package records_test

import (
	"bytes"
	"encoding/hex"
	"math"
	"slices"
	"strings"
	"sync"
	"testing"

	"caisson/api"
	"caisson/records"
)

const (
	maxShard   = math.MaxUint32
	maxCounter = math.MaxUint64
)

var allNonces = []api.Nonce{
	{},
	{Counter: 1},
	{Counter: 2},
	{Counter: 255},
	{Counter: 256},
	{Counter: 1<<32 - 1},
	{Counter: 1 << 32},
	{Counter: 1 << 63},
	{Counter: maxCounter - 1},
	{Counter: maxCounter},
	{Shard: 1},
	{Shard: 1, Counter: 1},
	{Shard: 1, Counter: 2},
	{Shard: 2, Counter: 1},
	{Shard: 7, Counter: 9},
	{Shard: 256},
	{Shard: 0x01020304, Counter: 0x05060708090a0b0c},
	{Shard: 1 << 31},
	{Shard: maxShard},
	{Shard: maxShard, Counter: maxCounter},
}

// Epochs and marks.
var allNumbers = []uint64{0, 1, 2, 255, 256, 1<<32 - 1, 1 << 32, 0x0102030405060708, 1<<63 - 1, 1 << 63, math.MaxUint64 - 1, math.MaxUint64}

// allDigests returns digests that differ from each other, some of them from the zero digest in a single bit.
func allDigests() []api.Digest {
	l := []api.Digest{{}, api.Digest(repeated(0xff, 32)), ascending(0), ascending(1), ascending(0xe0), {0: 0x80}, {0: 1}, {31: 1}, {31: 0x80}, {15: 1}, {16: 1}}
	draw := drawer(10)
	for range 4 {
		l = append(l, api.Digest(drawBytes(draw, 32)))
	}
	return l
}

// ascending returns a digest, each byte of which is one more than the one before it.
func ascending(first byte) api.Digest {
	var d api.Digest
	for i := range d {
		d[i] = first + byte(i)
	}
	return d
}

func repeated(value byte, n int) []byte { return bytes.Repeat([]byte{value}, n) }

// drawer returns a function whose results are always the same sequence of numbers without a visible rule.
func drawer(seed uint64) func() uint64 {
	return func() uint64 {
		seed += 0x9e3779b97f4a7c15
		z := (seed ^ seed>>30) * 0xbf58476d1ce4e5b9
		z = (z ^ z>>27) * 0x94d049bb133111eb
		return z ^ z>>31
	}
}

func drawBytes(draw func() uint64, n int) []byte {
	b := make([]byte, n)
	for i := range b {
		b[i] = byte(draw() >> 20)
	}
	return b
}

// validRecords returns the zero record, and records of both slots with all nonces and tags.
func validRecords() []api.Record {
	l := []api.Record{{}}
	for _, n := range allNonces {
		for _, tag := range allDigests() {
			l = append(l, api.Record{State: 1, Nonce: n, Tag: tag}, api.Record{State: 2, Nonce: n, Tag: tag})
		}
	}
	return l
}

// invalidRecords returns records with each State above 2, and those with State 0 of which something is not zero.
func invalidRecords() []api.Record {
	var l []api.Record
	for _, n := range []api.Nonce{{}, {Counter: 1}, {Shard: maxShard, Counter: maxCounter}} {
		for _, tag := range []api.Digest{{}, ascending(1)} {
			for state := 3; state <= 255; state++ {
				l = append(l, api.Record{State: uint8(state), Nonce: n, Tag: tag})
			}
		}
	}
	for _, n := range allNonces {
		for _, tag := range allDigests() {
			if n != (api.Nonce{}) || tag != (api.Digest{}) {
				l = append(l, api.Record{Nonce: n, Tag: tag})
			}
		}
	}
	return append(l, almostZeroRecords()...)
}

// almostZeroRecords returns records with State 0 of which a single byte of the nonce or of the tag is not zero.
func almostZeroRecords() []api.Record {
	var l []api.Record
	for _, value := range []byte{1, 2, 0x80, 0xff} {
		for i := range 4 {
			l = append(l, api.Record{Nonce: api.Nonce{Shard: uint32(value) << (8 * i)}})
		}
		for i := range 8 {
			l = append(l, api.Record{Nonce: api.Nonce{Counter: uint64(value) << (8 * i)}})
		}
		for i := range 32 {
			r := api.Record{}
			r.Tag[i] = value
			l = append(l, r)
		}
	}
	return l
}

// validEntries returns the zero entry, and entries of both slots with all digests.
func validEntries() []api.Entry {
	l := []api.Entry{{}}
	for _, d := range allDigests() {
		l = append(l, api.Entry{State: 1, Digest: d}, api.Entry{State: 2, Digest: d})
	}
	return l
}

// invalidEntries returns entries with each State above 2, and those with State 0 whose Digest is not zero, also in a single byte.
func invalidEntries() []api.Entry {
	var l []api.Entry
	for _, d := range allDigests() {
		for state := 3; state <= 255; state++ {
			l = append(l, api.Entry{State: uint8(state), Digest: d})
		}
		if d != (api.Digest{}) {
			l = append(l, api.Entry{Digest: d})
		}
	}
	for _, value := range []byte{1, 2, 0x80, 0xff} {
		for i := range 32 {
			x := api.Entry{}
			x.Digest[i] = value
			l = append(l, x)
		}
	}
	return l
}

func allCells() []api.Cell {
	var l []api.Cell
	for _, root := range allDigests() {
		for _, epoch := range allNumbers {
			for _, mark := range allNumbers {
				l = append(l, api.Cell{Root: root, Epoch: epoch, Mark: mark})
			}
		}
	}
	return l
}

// number returns the bytes of a number by the definition, the most significant one first.
func number(v uint64, size int) []byte {
	var b []byte
	for shift := 8 * (size - 1); shift >= 0; shift -= 8 {
		b = append(b, byte(v>>shift))
	}
	return b
}

// recordBytes returns the bytes of a record by the definition, whether it is valid or not.
func recordBytes(r api.Record) []byte {
	return slices.Concat([]byte{r.State}, number(uint64(r.Nonce.Shard), 4), number(r.Nonce.Counter, 8), r.Tag[:])
}

// entryBytes returns the bytes of an entry by the definition, whether it is valid or not.
func entryBytes(x api.Entry) []byte { return slices.Concat([]byte{x.State}, x.Digest[:]) }

// cellBytes returns the bytes of a cell by the definition.
func cellBytes(c api.Cell) []byte {
	return slices.Concat(c.Root[:], number(c.Epoch, 8), number(c.Mark, 8))
}

func unhex(t *testing.T, text string) []byte {
	t.Helper()
	b, err := hex.DecodeString(text)
	if err != nil {
		t.Fatalf("%q: %v", text, err)
	}
	return b
}

// coder is a Put and its Get, with the definition of the bytes and of what is valid.
type coder[T comparable] struct {
	name    string
	size    int
	values  []T // valid ones
	put     func(T) ([]byte, api.Errno)
	get     func([]byte) (T, api.Errno)
	of      func(T) []byte
	refused func(b []byte) bool // whether bytes of the right length have nothing valid
}

func recordCoder() coder[api.Record] {
	return coder[api.Record]{"Record", 45, validRecords(), records.PutRecord, records.GetRecord, recordBytes, badState}
}

func entryCoder() coder[api.Entry] {
	return coder[api.Entry]{"Entry", 33, validEntries(), records.PutEntry, records.GetEntry, entryBytes, badState}
}

func cellCoder() coder[api.Cell] {
	put := func(c api.Cell) ([]byte, api.Errno) { return records.PutCell(c), api.OK }
	return coder[api.Cell]{"Cell", 48, allCells(), put, records.GetCell, cellBytes, func([]byte) bool { return false }}
}

// badState tells whether bytes begin with a State above 2, or with State 0 while another byte is not zero.
func badState(b []byte) bool {
	return b[0] > 2 || b[0] == 0 && bytes.Count(b, []byte{0}) < len(b)
}

// wanted returns the error that Get has to return for bytes.
func (c coder[T]) wanted(b []byte) api.Errno {
	switch {
	case len(b) < c.size:
		return api.ErrShort
	case len(b) > c.size:
		return api.ErrForm
	case c.refused(b):
		return api.ErrArg
	}
	return api.OK
}

// read gets what has bytes, and checks the error, that there is nothing with an error, and that otherwise Put returns the same bytes.
func (c coder[T]) read(t *testing.T, b []byte) T {
	t.Helper()
	var zero T
	got, e := c.get(b)
	if want := c.wanted(b); e != want {
		t.Fatalf("Get%s(%d bytes, %x): error %d, want %d", c.name, len(b), b, e, want)
	}
	if e != api.OK {
		if got != zero {
			t.Fatalf("Get%s(%x) = %v with the error %d", c.name, b, got, e)
		}
		return got
	}
	if again, e := c.put(got); e != api.OK || !bytes.Equal(again, b) || !bytes.Equal(c.of(got), b) {
		t.Fatalf("Get%s(%x) = %v, of which Put%s returns %x, %d", c.name, b, got, c.name, again, e)
	}
	return got
}

// The sizes are constants of the package.
func TestSizes(t *testing.T) {
	if records.RecordSize != 45 || records.EntrySize != 33 || records.CellSize != 48 {
		t.Errorf("sizes %d, %d, %d", records.RecordSize, records.EntrySize, records.CellSize)
	}
}

// P10.1: States 0, 1, 2, 3 and 255 among all others, zero or not.
func TestCheckRecord(t *testing.T) {
	for _, r := range validRecords() {
		if e := records.CheckRecord(r); e != api.OK {
			t.Errorf("CheckRecord(%v): error %d", r, e)
		}
	}
	for _, r := range invalidRecords() {
		if e := records.CheckRecord(r); e != api.ErrArg {
			t.Errorf("CheckRecord(%v): error %d, want ErrArg", r, e)
		}
	}
}

// P10.1: what is not zero is refused with State 0 only.
func TestCheckRecordOfEachState(t *testing.T) {
	for i, r := range almostZeroRecords() {
		for state := range 256 {
			r.State = uint8(state)
			want := api.ErrArg
			if state == 1 || state == 2 {
				want = api.OK
			}
			if e := records.CheckRecord(r); e != want {
				t.Fatalf("CheckRecord(%d, %v): error %d, want %d", i, r, e, want)
			}
		}
	}
}

// P10.1
func TestCheckEntry(t *testing.T) {
	for _, x := range validEntries() {
		if e := records.CheckEntry(x); e != api.OK {
			t.Errorf("CheckEntry(%v): error %d", x, e)
		}
	}
	for _, x := range invalidEntries() {
		if e := records.CheckEntry(x); e != api.ErrArg {
			t.Errorf("CheckEntry(%v): error %d, want ErrArg", x, e)
		}
	}
}

// P10.1: all States with digests that differ from zero in one bit.
func TestCheckEntryOfEachState(t *testing.T) {
	for bit := range 256 {
		for state := range 256 {
			x := api.Entry{State: uint8(state)}
			x.Digest[bit/8] = 1 << (bit % 8)
			want := api.ErrArg
			if state == 1 || state == 2 {
				want = api.OK
			}
			if e := records.CheckEntry(x); e != want {
				t.Fatalf("CheckEntry(%v): error %d, want %d", x, e, want)
			}
		}
	}
}

const (
	counted = "000102030405060708090a0b0c0d0e0f101112131415161718191a1b1c1d1e1f"
	// All bits of a digest are set.
	full = "ffffffffffffffffffffffffffffffffffffffffffffffffffffffffffffffff"
)

// P10.2, P10.3: the chapter's examples among others.
func TestRecordBytes(t *testing.T) {
	zeros := strings.Repeat("00", 32)
	for _, x := range []struct {
		record api.Record
		want   string
	}{
		{api.Record{}, strings.Repeat("00", 45)},
		{api.Record{State: 1}, "01" + "00000000" + "0000000000000000" + zeros},
		{api.Record{State: 2}, "02" + "00000000" + "0000000000000000" + zeros},
		{api.Record{State: 1, Nonce: api.Nonce{Shard: 1}}, "01" + "00000001" + "0000000000000000" + zeros},
		{api.Record{State: 1, Nonce: api.Nonce{Counter: 1}}, "01" + "00000000" + "0000000000000001" + zeros},
		{api.Record{State: 2, Nonce: api.Nonce{Shard: 1, Counter: 258}, Tag: ascending(0)}, "02" + "00000001" + "0000000000000102" + counted},
		{api.Record{State: 1, Nonce: api.Nonce{Shard: 0x01020304, Counter: 0x05060708090a0b0c}, Tag: ascending(0)}, "01" + "01020304" + "05060708090a0b0c" + counted},
		{api.Record{State: 2, Nonce: api.Nonce{Shard: maxShard, Counter: maxCounter}, Tag: api.Digest(repeated(0xff, 32))}, "02" + "ffffffff" + "ffffffffffffffff" + full},
		{api.Record{State: 1, Nonce: api.Nonce{Shard: maxShard}, Tag: api.Digest{31: 5}}, "01" + "ffffffff" + "0000000000000000" + zeros[:62] + "05"},
		{api.Record{State: 1, Nonce: api.Nonce{Counter: maxCounter}, Tag: api.Digest{5}}, "01" + "00000000" + "ffffffffffffffff" + "05" + zeros[2:]},
	} {
		b := unhex(t, x.want)
		if got, e := records.PutRecord(x.record); !bytes.Equal(got, b) || e != api.OK {
			t.Errorf("PutRecord(%v) = %x, %d, want %s", x.record, got, e, x.want)
		}
		if got, e := records.GetRecord(b); got != x.record || e != api.OK {
			t.Errorf("GetRecord(%s) = %v, %d, want %v", x.want, got, e, x.record)
		}
	}
}

// P10.2, P10.3
func TestEntryBytes(t *testing.T) {
	zeros := strings.Repeat("00", 32)
	for _, x := range []struct {
		entry api.Entry
		want  string
	}{
		{api.Entry{}, strings.Repeat("00", 33)},
		{api.Entry{State: 1}, "01" + zeros},
		{api.Entry{State: 2}, "02" + zeros},
		{api.Entry{State: 1, Digest: ascending(0)}, "01" + counted},
		{api.Entry{State: 2, Digest: ascending(0)}, "02" + counted},
		{api.Entry{State: 2, Digest: api.Digest(repeated(0xff, 32))}, "02" + full},
		{api.Entry{State: 1, Digest: api.Digest{5}}, "01" + "05" + zeros[2:]},
		{api.Entry{State: 1, Digest: api.Digest{31: 5}}, "01" + zeros[:62] + "05"},
	} {
		b := unhex(t, x.want)
		if got, e := records.PutEntry(x.entry); !bytes.Equal(got, b) || e != api.OK {
			t.Errorf("PutEntry(%v) = %x, %d, want %s", x.entry, got, e, x.want)
		}
		if got, e := records.GetEntry(b); got != x.entry || e != api.OK {
			t.Errorf("GetEntry(%s) = %v, %d, want %v", x.want, got, e, x.entry)
		}
	}
}

// P10.2, P10.3: the chapter's example among others.
func TestCellBytes(t *testing.T) {
	zeros := strings.Repeat("00", 32)
	for _, x := range []struct {
		cell api.Cell
		want string
	}{
		{api.Cell{}, strings.Repeat("00", 48)},
		{api.Cell{Epoch: 1, Mark: 2}, zeros + "0000000000000001" + "0000000000000002"},
		{api.Cell{Epoch: 2, Mark: 1}, zeros + "0000000000000002" + "0000000000000001"},
		{api.Cell{Root: ascending(0), Epoch: 0x2021222324252627, Mark: 0x28292a2b2c2d2e2f}, counted + "2021222324252627" + "28292a2b2c2d2e2f"},
		{api.Cell{Epoch: math.MaxUint64}, zeros + "ffffffffffffffff" + "0000000000000000"},
		{api.Cell{Mark: math.MaxUint64}, zeros + "0000000000000000" + "ffffffffffffffff"},
		{api.Cell{Root: api.Digest(repeated(0xff, 32))}, full + "0000000000000000" + "0000000000000000"},
		{api.Cell{Root: api.Digest(repeated(0xff, 32)), Epoch: math.MaxUint64, Mark: math.MaxUint64}, full + "ffffffffffffffff" + "ffffffffffffffff"},
		{api.Cell{Root: api.Digest{31: 3}, Epoch: 256, Mark: 1 << 32}, zeros[:62] + "03" + "0000000000000100" + "0000000100000000"},
	} {
		b := unhex(t, x.want)
		if got := records.PutCell(x.cell); !bytes.Equal(got, b) {
			t.Errorf("PutCell(%v) = %x, want %s", x.cell, got, x.want)
		}
		if got, e := records.GetCell(b); got != x.cell || e != api.OK {
			t.Errorf("GetCell(%s) = %v, %d, want %v", x.want, got, e, x.cell)
		}
	}
}

// testPut checks the bytes of all valid values, and that Get inverts Put.
func testPut[T comparable](t *testing.T, c coder[T]) {
	for _, v := range c.values {
		b, e := c.put(v)
		if e != api.OK || len(b) != c.size || !bytes.Equal(b, c.of(v)) {
			t.Errorf("Put%s(%v) = %x, %d, want %x", c.name, v, b, e, c.of(v))
		}
		if got, e := c.get(b); got != v || e != api.OK {
			t.Errorf("Get%s(%x) = %v, %d, want %v", c.name, b, got, e, v)
		}
	}
}

// P10.2, P10.5: the bytes of many records, entries and cells are those of the definition, and Get inverts Put.
func TestPut(t *testing.T) {
	testPut(t, recordCoder())
	testPut(t, entryCoder())
	testPut(t, cellCoder())
}

// P10.2, R3: there are no bytes of what is not valid.
func TestPutOfInvalid(t *testing.T) {
	for _, r := range invalidRecords() {
		if b, e := records.PutRecord(r); len(b) != 0 || e != api.ErrArg {
			t.Errorf("PutRecord(%v) = %x, %d, want ErrArg", r, b, e)
		}
	}
	for _, x := range invalidEntries() {
		if b, e := records.PutEntry(x); len(b) != 0 || e != api.ErrArg {
			t.Errorf("PutEntry(%v) = %x, %d, want ErrArg", x, b, e)
		}
	}
}

// P10.3, R3: the bytes of what is not valid have nothing.
func TestGetOfInvalid(t *testing.T) {
	for _, r := range invalidRecords() {
		if got, e := records.GetRecord(recordBytes(r)); got != (api.Record{}) || e != api.ErrArg {
			t.Errorf("GetRecord(%x) = %v, %d, want ErrArg", recordBytes(r), got, e)
		}
	}
	for _, x := range invalidEntries() {
		if got, e := records.GetEntry(entryBytes(x)); got != (api.Entry{}) || e != api.ErrArg {
			t.Errorf("GetEntry(%x) = %v, %d, want ErrArg", entryBytes(x), got, e)
		}
	}
}

// P10.3: the chapter's examples.
func TestGetExamples(t *testing.T) {
	for _, x := range []struct {
		b []byte
		e api.Errno
	}{
		{append([]byte{3}, make([]byte, 44)...), api.ErrArg},
		{append(make([]byte, 44), 1), api.ErrArg},
		{make([]byte, 44), api.ErrShort},
		{make([]byte, 46), api.ErrForm},
		{make([]byte, 45), api.OK},
		{nil, api.ErrShort},
	} {
		if r, e := records.GetRecord(x.b); r != (api.Record{}) || e != x.e {
			t.Errorf("GetRecord(%x) = %v, %d, want %d", x.b, r, e, x.e)
		}
	}
	if x, e := records.GetEntry(make([]byte, 34)); x != (api.Entry{}) || e != api.ErrForm {
		t.Errorf("GetEntry(34 bytes) = %v, %d", x, e)
	}
	if x, e := records.GetEntry(nil); x != (api.Entry{}) || e != api.ErrShort {
		t.Errorf("GetEntry(nil) = %v, %d", x, e)
	}
	if c, e := records.GetCell(nil); c != (api.Cell{}) || e != api.ErrShort {
		t.Errorf("GetCell(nil) = %v, %d", c, e)
	}
}

// testLengths reads bytes of every length from 0 to 60, and longer ones, with each kind of first byte, so that a fault of the length comes before one of the State. Bytes behind the end, in the capacity, do not count.
func testLengths[T comparable](t *testing.T, c coder[T]) {
	lengths := []int{64, 66, 90, 91, 96, 99, 185, 255, 256, 257, 1000, 4096, 65536}
	for n := range 61 {
		lengths = append(lengths, n)
	}
	for _, first := range []byte{0, 1, 2, 3, 255} {
		for _, rest := range []byte{0, 1, 0xff} {
			long := repeated(rest, 65600)
			long[0] = first
			for _, n := range lengths {
				c.read(t, long[:n])
				c.read(t, long[:n:n])
			}
		}
	}
}

// P10.3, R2
func TestGetLengths(t *testing.T) {
	testLengths(t, recordCoder())
	testLengths(t, entryCoder())
	testLengths(t, cellCoder())
}

// P10.3: bytes of a wrong length that begin with those of something are refused, also if what is missing, or is too much, is zero.
func TestGetOfCutBytes(t *testing.T) {
	r := recordBytes(api.Record{State: 1, Nonce: api.Nonce{Shard: 2, Counter: 3}, Tag: ascending(4)})
	x := entryBytes(api.Entry{State: 2, Digest: ascending(5)})
	c := cellBytes(api.Cell{Root: ascending(6), Epoch: 7, Mark: 8})
	for n := range 48 {
		if n < 45 {
			recordCoder().read(t, r[:n])
		}
		if n < 33 {
			entryCoder().read(t, x[:n])
		}
		cellCoder().read(t, c[:n])
		recordCoder().read(t, slices.Concat(r, make([]byte, n)))
		entryCoder().read(t, slices.Concat(x, make([]byte, n)))
		cellCoder().read(t, slices.Concat(c, make([]byte, n)))
	}
}

// testEachByte reads bytes of the right length with each first byte, and with one byte changed to each value.
func testEachByte[T comparable](t *testing.T, c coder[T]) {
	for _, v := range []T{c.values[0], c.values[1], c.values[2], c.values[len(c.values)-1]} {
		b := c.of(v)
		for at := range b {
			for value := range 256 {
				changed := bytes.Clone(b)
				changed[at] = byte(value)
				got := c.read(t, changed)
				if e := c.wanted(changed); e == api.OK && (got == v) != bytes.Equal(b, changed) {
					t.Fatalf("Get%s(%x) = %v, and for %x it is %v", c.name, b, v, changed, got)
				}
			}
		}
	}
}

// P10.3, P10.5
func TestGetOfEachByte(t *testing.T) {
	testEachByte(t, recordCoder())
	testEachByte(t, entryCoder())
	testEachByte(t, cellCoder())
}

// P10.3: each byte has its place.
func TestPlaces(t *testing.T) {
	for i := range 45 {
		for _, value := range []byte{1, 2, 0x80, 0xff} {
			want := api.Record{State: 1}
			switch {
			case i == 0:
				want.State = min(value, 2)
			case i < 5:
				want.Nonce.Shard = uint32(value) << (8 * (4 - i))
			case i < 13:
				want.Nonce.Counter = uint64(value) << (8 * (12 - i))
			default:
				want.Tag[i-13] = value
			}
			b := append([]byte{1}, make([]byte, 44)...)
			b[i] = value
			b[0] = want.State
			if got, e := records.GetRecord(b); got != want || e != api.OK {
				t.Errorf("GetRecord(%x) = %v, %d, want %v", b, got, e, want)
			}
		}
	}
	for i := range 48 {
		for _, value := range []byte{1, 2, 0x80, 0xff} {
			var want api.Cell
			switch {
			case i < 32:
				want.Root[i] = value
			case i < 40:
				want.Epoch = uint64(value) << (8 * (39 - i))
			default:
				want.Mark = uint64(value) << (8 * (47 - i))
			}
			b := make([]byte, 48)
			b[i] = value
			if got, e := records.GetCell(b); got != want || e != api.OK {
				t.Errorf("GetCell(%x) = %v, %d, want %v", b, got, e, want)
			}
		}
	}
}

// testAnyBytes reads drawn bytes, most of which are of the right length and begin with a State.
func testAnyBytes[T comparable](t *testing.T, c coder[T]) {
	draw := drawer(uint64(c.size))
	for range 20000 {
		size := c.size
		if draw()%8 == 0 {
			size = int(draw() % 61)
		}
		b := drawBytes(draw, size)
		if size > 0 && draw()%4 != 0 {
			b[0] %= 4
		}
		if draw()%8 == 0 {
			clear(b[:size/2])
		}
		c.read(t, b)
	}
}

// P10.3, P10.5: Get accepts only bytes that Put returns.
func TestGetOfAnyBytes(t *testing.T) {
	testAnyBytes(t, recordCoder())
	testAnyBytes(t, entryCoder())
	testAnyBytes(t, cellCoder())
}

// testMemory checks that the bytes of a value are new ones without spare capacity, and that what was read stays when the bytes change.
func testMemory[T comparable](t *testing.T, c coder[T]) {
	for _, v := range c.values {
		first, _ := c.put(v)
		second, _ := c.put(v)
		if cap(first) != c.size {
			t.Errorf("Put%s(%v) has a capacity of %d", c.name, v, cap(first))
		}
		got, _ := c.get(second)
		if !bytes.Equal(second, c.of(v)) {
			t.Errorf("Get%s changed %x to %x", c.name, c.of(v), second)
		}
		for i := range first {
			first[i]++
		}
		if !bytes.Equal(second, c.of(v)) {
			t.Errorf("two results of Put%s(%v) share memory", c.name, v)
		}
		for i := range second {
			second[i]++
		}
		if got != v {
			t.Errorf("what Get%s returned shares memory with the bytes: %v, want %v", c.name, got, v)
		}
	}
}

// P10.2, P10.3, R4
func TestMemory(t *testing.T) {
	testMemory(t, recordCoder())
	testMemory(t, entryCoder())
	testMemory(t, cellCoder())
}

// R4: bytes that are refused are not changed either, nor what lies behind them.
func TestArgumentsAreNotChanged(t *testing.T) {
	for _, first := range []byte{0, 1, 2, 3} {
		for n := range 61 {
			b := repeated(7, 80)
			b[0] = first
			kept := bytes.Clone(b)
			records.GetRecord(b[:n])
			records.GetEntry(b[:n])
			records.GetCell(b[:n])
			if !bytes.Equal(b, kept) {
				t.Errorf("%d bytes with the first one %d were changed: %x", n, first, b)
			}
		}
	}
}

// P10.4: every State.
func TestSlot(t *testing.T) {
	for state := range 256 {
		want, e := 0, api.ErrArg
		switch state {
		case 0:
			e = api.ErrNone
		case 1:
			e = api.OK
		case 2:
			want, e = 1, api.OK
		}
		if got, f := records.Slot(uint8(state)); got != want || f != e {
			t.Errorf("Slot(%d) = %d, %d, want %d, %d", state, got, f, want, e)
		}
	}
}

// P10.4: both slots, and numbers that are none, up to the ends of int.
func TestState(t *testing.T) {
	for slot, want := range []uint8{1, 2} {
		if got, e := records.State(slot); got != want || e != api.OK {
			t.Errorf("State(%d) = %d, %d, want %d", slot, got, e, want)
		}
	}
	for _, slot := range []int{-1, -2, -255, -256, 2, 3, 4, 127, 128, 254, 255, 256, 257, 1 << 16, 1<<31 - 1, 1 << 31, 1 << 32, 1<<32 + 1, -1 << 32, 1 - 1<<32, math.MinInt, math.MinInt + 1, math.MaxInt - 1, math.MaxInt} {
		if got, e := records.State(slot); got != 0 || e != api.ErrArg {
			t.Errorf("State(%d) = %d, %d, want ErrArg", slot, got, e)
		}
	}
}

// P10.5: State inverts Slot, and Slot inverts State.
func TestStateInvertsSlot(t *testing.T) {
	count := 0
	for state := range 256 {
		slot, e := records.Slot(uint8(state))
		if e != api.OK {
			continue
		}
		count++
		if got, e := records.State(slot); got != uint8(state) || e != api.OK {
			t.Errorf("State(Slot(%d)) = %d, %d", state, got, e)
		}
	}
	for _, slot := range []int{0, 1} {
		state, _ := records.State(slot)
		if got, e := records.Slot(state); got != slot || e != api.OK {
			t.Errorf("Slot(State(%d)) = %d, %d", slot, got, e)
		}
	}
	if count != 2 {
		t.Errorf("%d States have a slot", count)
	}
}

// P10.1, P10.4: a record and an entry that are valid have a slot, unless they are zero.
func TestSlotOfValid(t *testing.T) {
	for _, r := range validRecords() {
		if _, e := records.Slot(r.State); (e == api.ErrNone) != (r == api.Record{}) || e == api.ErrArg {
			t.Errorf("%v: Slot returns the error %d", r, e)
		}
	}
	for _, x := range validEntries() {
		if _, e := records.Slot(x.State); (e == api.ErrNone) != (x == api.Entry{}) || e == api.ErrArg {
			t.Errorf("%v: Slot returns the error %d", x, e)
		}
	}
}

// R5: a result does not depend on the calls before, or on those at the same time.
func TestCallsAreIndependent(t *testing.T) {
	type results struct {
		record api.Record
		entry  api.Entry
		cell   api.Cell
		bytes  string
	}
	work := func(i int) results {
		b := drawBytes(drawer(uint64(i)), 48)
		b[0] = byte(i % 3)
		var r results
		r.record, _ = records.GetRecord(b[:45])
		r.entry, _ = records.GetEntry(b[:33])
		r.cell, _ = records.GetCell(b)
		first, _ := records.PutRecord(r.record)
		second, _ := records.PutEntry(r.entry)
		r.bytes = hex.EncodeToString(slices.Concat(first, second, records.PutCell(r.cell)))
		return r
	}
	var first, again [64]results
	for i := range first {
		first[i] = work(i)
	}
	var group sync.WaitGroup
	for i := range again {
		group.Go(func() { again[63-i] = work(63 - i) })
	}
	group.Wait()
	for i := range first {
		if first[i] != again[i] {
			t.Errorf("the calls %d returned %v and %v", i, first[i], again[i])
		}
	}
}
