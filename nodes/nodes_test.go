package nodes_test

import (
	"bytes"
	"encoding/hex"
	"fmt"
	"math"
	"math/bits"
	"slices"
	"strings"
	"sync"
	"testing"

	"caisson/api"
	"caisson/digests"
	"caisson/nodes"
)

const (
	maxIndex   = math.MaxUint32
	maxCounter = math.MaxUint64
)

var allIndices = []uint32{0, 1, 2, 3, 4, 255, 256, 257, 1023, 1024, 65535, 65536, 0x01020304, 1 << 24, 1<<31 - 1, 1 << 31, maxIndex - 1, maxIndex}

// The numbers of blocks that the issue names.
var allNumbers = []int{1, 4, 5, 16, 17, 64, 65, 256, 257, 1024, 1025, 4095, 4096}

var badNumbers = []int{0, -1, -2, -4, -5, -4096, 4097, 4098, 5000, 1 << 16, 1<<32 + 1, 1<<32 + 5, math.MinInt, math.MinInt + 1, math.MaxInt - 1, math.MaxInt}

// Numbers of parts that are none: the nearest ones, the ends of int, and those that lose high bits, or wrap around, into the range.
var badParts = []int{-1, -2, -3, -4, -256, 4, 5, 7, 8, 256, 257, 1 << 16, 1 << 32, 1<<32 + 1, -1 << 32, 1 - 1<<32, math.MinInt, math.MinInt + 1, math.MaxInt - 1, math.MaxInt}

// ascending returns a digest, each byte of which is one more than the one before it.
func ascending(first byte) api.Digest {
	var d api.Digest
	for i := range d {
		d[i] = first + byte(i)
	}
	return d
}

// full is a digest of which all bits are set.
func full() api.Digest { return api.Digest(bytes.Repeat([]byte{0xff}, 32)) }

// drawer returns a function whose results are always the same sequence of numbers without a visible rule.
func drawer(seed uint64) func() uint64 {
	return func() uint64 {
		seed += 0x9e3779b97f4a7c15
		z := (seed ^ seed>>30) * 0xbf58476d1ce4e5b9
		z = (z ^ z>>27) * 0x94d049bb133111eb
		return z ^ z>>31
	}
}

func drawDigest(draw func() uint64) api.Digest {
	var d api.Digest
	for i := range d {
		d[i] = byte(draw() >> 20)
	}
	return d
}

// kind is a kind of parts: which levels have it, and what the chapters say of its parts.
type kind[T comparable] struct {
	name   string
	levels []uint8 // the valid ones
	others []uint8 // the valid ones that have the other kind
	valid  []T     // without the zero one
	bad    []T
	draw   func(func() uint64) T
	parts  func(*api.Node) *[4]T
	with   func(api.Node, int, T) (api.Node, api.Errno)
	bytes  func(T) []byte
}

func recordKind() kind[api.Record] {
	tag := ascending(1)
	valid := []api.Record{
		{State: 1}, {State: 2},
		{State: 1, Nonce: api.Nonce{Shard: 0x01020304, Counter: 0x05060708090a0b0c}, Tag: ascending(0)},
		{State: 2, Nonce: api.Nonce{Shard: maxIndex, Counter: maxCounter}, Tag: full()},
		{State: 1, Nonce: api.Nonce{Shard: 1}}, {State: 2, Nonce: api.Nonce{Counter: 1}}, {State: 1, Tag: api.Digest{31: 1}},
	}
	bad := []api.Record{
		{State: 3}, {State: 4}, {State: 128}, {State: 254}, {State: 255}, {State: 3, Nonce: api.Nonce{Shard: 1, Counter: 2}, Tag: tag}, {State: 255, Tag: full()},
		{Nonce: api.Nonce{Shard: 1}}, {Nonce: api.Nonce{Shard: 1 << 31}}, {Nonce: api.Nonce{Counter: 1}}, {Nonce: api.Nonce{Counter: 1 << 63}},
		{Tag: api.Digest{1}}, {Tag: api.Digest{31: 1}}, {Tag: api.Digest{31: 0x80}}, {Nonce: api.Nonce{Shard: 7, Counter: 9}, Tag: tag},
	}
	draw := func(draw func() uint64) api.Record {
		if draw()%4 == 0 {
			return api.Record{}
		}
		return api.Record{State: uint8(1 + draw()%2), Nonce: api.Nonce{Shard: uint32(draw()), Counter: draw()}, Tag: drawDigest(draw)}
	}
	parts := func(x *api.Node) *[4]api.Record { return &x.Records }
	return kind[api.Record]{"Record", []uint8{0}, []uint8{1, 2, 3, 4, 5}, valid, bad, draw, parts, nodes.WithRecord, recordBytes}
}

func entryKind() kind[api.Entry] {
	valid := []api.Entry{{State: 1}, {State: 2}, {State: 1, Digest: ascending(0)}, {State: 2, Digest: full()}, {State: 1, Digest: api.Digest{1}}, {State: 2, Digest: api.Digest{31: 1}}}
	bad := []api.Entry{
		{State: 3}, {State: 4}, {State: 128}, {State: 254}, {State: 255}, {State: 3, Digest: ascending(1)}, {State: 255, Digest: full()},
		{Digest: api.Digest{1}}, {Digest: api.Digest{31: 1}}, {Digest: api.Digest{31: 0x80}}, {Digest: ascending(7)},
	}
	draw := func(draw func() uint64) api.Entry {
		if draw()%4 == 0 {
			return api.Entry{}
		}
		return api.Entry{State: uint8(1 + draw()%2), Digest: drawDigest(draw)}
	}
	parts := func(x *api.Node) *[4]api.Entry { return &x.Entries }
	return kind[api.Entry]{"Entry", []uint8{1, 2, 3, 4, 5}, []uint8{0}, valid, bad, draw, parts, nodes.WithEntry, entryBytes}
}

// node returns a node with these parts.
func (k kind[T]) node(level uint8, index uint32, parts [4]T) api.Node {
	x := api.Node{Level: level, Index: index}
	*k.parts(&x) = parts
	return x
}

// single returns a node with one part that is not zero.
func (k kind[T]) single(level uint8, index uint32, which int, p T) api.Node {
	var parts [4]T
	parts[which] = p
	return k.node(level, index, parts)
}

// masked returns a node in which the parts with a bit in mask are p, and the others are rest.
func (k kind[T]) masked(level uint8, index uint32, mask int, p, rest T) api.Node {
	var parts [4]T
	for i := range parts {
		parts[i] = rest
		if mask>>i&1 == 1 {
			parts[i] = p
		}
	}
	return k.node(level, index, parts)
}

// validNodes returns valid nodes of all levels of a kind: empty ones, ones with each part in each place, and drawn ones.
func (k kind[T]) validNodes() []api.Node {
	var l []api.Node
	draw := drawer(1)
	for _, level := range k.levels {
		for i, index := range allIndices {
			l = append(l, api.Node{Level: level, Index: index})
			for which := range 4 {
				l = append(l, k.single(level, index, which, k.valid[i%len(k.valid)]))
			}
			l = append(l, k.node(level, index, [4]T{k.draw(draw), k.draw(draw), k.draw(draw), k.draw(draw)}))
		}
		for i, p := range k.valid {
			for mask := range 16 {
				l = append(l, k.masked(level, allIndices[mask], mask, p, k.valid[(i+mask)%len(k.valid)]))
			}
		}
	}
	return l
}

// faultyNodes returns nodes of the valid levels with parts that are not valid, in each place and in several.
func (k kind[T]) faultyNodes() []api.Node {
	var l []api.Node
	for _, level := range k.levels {
		for i, p := range k.bad {
			for mask := 1; mask < 16; mask++ {
				var zero T
				l = append(l, k.masked(level, uint32(i), mask, p, zero), k.masked(level, maxIndex, mask, p, k.valid[i%len(k.valid)]))
			}
		}
	}
	return l
}

// strangeNodes returns nodes whose level has the other kind, with parts of this kind, valid and not, in each place and in several.
func (k kind[T]) strangeNodes() []api.Node {
	var l []api.Node
	for _, level := range k.others {
		for _, p := range slices.Concat(k.valid, k.bad) {
			for mask := 1; mask < 16; mask++ {
				var zero T
				l = append(l, k.masked(level, uint32(mask), mask, p, zero))
			}
		}
	}
	return l
}

func validNodes() []api.Node {
	return slices.Concat(recordKind().validNodes(), entryKind().validNodes())
}

// badNodes returns nodes that are not valid for each reason, and for several.
func badNodes() []api.Node {
	r, e := recordKind(), entryKind()
	l := slices.Concat(r.faultyNodes(), e.faultyNodes(), r.strangeNodes(), e.strangeNodes())
	for level := 6; level <= 255; level++ {
		for _, index := range []uint32{0, 1, maxIndex} {
			both := e.single(uint8(level), index, 3, e.bad[0])
			both.Records[0] = r.valid[0]
			l = append(l, api.Node{Level: uint8(level), Index: index}, r.single(uint8(level), index, 0, r.valid[2]), e.single(uint8(level), index, 1, e.valid[2]), both)
		}
	}
	for which := range 4 {
		for level := range uint8(6) {
			both := r.single(level, 1, which, r.bad[which])
			both.Entries[3-which] = e.bad[which]
			l = append(l, both)
			both.Records[which], both.Entries[3-which] = r.valid[which], e.valid[which]
			l = append(l, both)
		}
	}
	return l
}

// number returns the bytes of a number by the definition, the most significant one first.
func number(v uint64, size int) []byte {
	var b []byte
	for shift := 8 * (size - 1); shift >= 0; shift -= 8 {
		b = append(b, byte(v>>shift))
	}
	return b
}

// recordBytes returns the bytes of a record by the definition, whether it is valid or not.
func recordBytes(r api.Record) []byte {
	return slices.Concat([]byte{r.State}, number(uint64(r.Nonce.Shard), 4), number(r.Nonce.Counter, 8), r.Tag[:])
}

// entryBytes returns the bytes of an entry by the definition, whether it is valid or not.
func entryBytes(x api.Entry) []byte { return slices.Concat([]byte{x.State}, x.Digest[:]) }

// nodeBytes returns the bytes of a node by the definition, whether it is valid or not.
func nodeBytes(x api.Node) []byte {
	b := slices.Concat([]byte{x.Level}, number(uint64(x.Index), 4))
	for i := range 4 {
		if x.Level == 0 {
			b = append(b, recordBytes(x.Records[i])...)
		} else {
			b = append(b, entryBytes(x.Entries[i])...)
		}
	}
	return b
}

// sizeOf returns how many bytes a node of a level has.
func sizeOf(level byte) int {
	if level == 0 {
		return 185
	}
	return 137
}

// badPart tells whether the bytes of a part begin with a State above 2, or with State 0 while another byte is not zero.
func badPart(b []byte) bool {
	return b[0] > 2 || b[0] == 0 && bytes.Count(b, []byte{0}) < len(b)
}

// wantOfGet returns the error that Get has to return for bytes.
func wantOfGet(b []byte) api.Errno {
	switch {
	case len(b) == 0:
		return api.ErrShort
	case b[0] > 5:
		return api.ErrArg
	case len(b) < sizeOf(b[0]):
		return api.ErrShort
	case len(b) > sizeOf(b[0]):
		return api.ErrForm
	}
	for part := range slices.Chunk(b[5:], (len(b)-5)/4) {
		if badPart(part) {
			return api.ErrArg
		}
	}
	return api.OK
}

// read gets the node with bytes, and checks the error, that there is nothing with an error, and that otherwise the node is valid and has these bytes.
func read(t *testing.T, b []byte) api.Node {
	t.Helper()
	got, e := nodes.Get(b)
	if want := wantOfGet(b); e != want {
		t.Fatalf("Get(%d bytes, %x): error %d, want %d", len(b), b, e, want)
	}
	if e != api.OK {
		if got != (api.Node{}) {
			t.Fatalf("Get(%x) = %v with the error %d", b, got, e)
		}
		return got
	}
	if again, e := nodes.Put(got); e != api.OK || !bytes.Equal(again, b) || !bytes.Equal(nodeBytes(got), b) {
		t.Fatalf("Get(%x) = %v, of which Put returns %x, %d", b, got, again, e)
	}
	if e := nodes.Check(got); e != api.OK {
		t.Fatalf("Get(%x) = %v, which is not valid: %d", b, got, e)
	}
	return got
}

// checkBad fails if a function accepts a node that is not valid, or returns something with the error.
func checkBad(t *testing.T, x api.Node) {
	t.Helper()
	if e := nodes.Check(x); e != api.ErrArg {
		t.Fatalf("Check(%v): error %d, want ErrArg", x, e)
	}
	if b, e := nodes.Put(x); len(b) != 0 || e != api.ErrArg {
		t.Fatalf("Put(%v) = %x, %d, want ErrArg", x, b, e)
	}
	if d, e := nodes.Digest(x); d != (api.Digest{}) || e != api.ErrArg {
		t.Fatalf("Digest(%v) = %x, %d, want ErrArg", x, d, e)
	}
}

func checkFits(t *testing.T, n int, x api.Node, want api.Errno) {
	t.Helper()
	if e := nodes.Fits(n, x); e != want {
		t.Fatalf("Fits(%d, %v): error %d, want %d", n, x, e, want)
	}
}

func unhex(t *testing.T, text string) []byte {
	t.Helper()
	b, err := hex.DecodeString(text)
	if err != nil {
		t.Fatalf("%q: %v", text, err)
	}
	return b
}

// The chapter's examples.
func TestExamples(t *testing.T) {
	b, e := nodes.Put(nodes.Empty(1, 2))
	if want := append([]byte{1, 0, 0, 0, 2}, make([]byte, 132)...); !bytes.Equal(b, want) || e != api.OK {
		t.Errorf("Put(Empty(1, 2)) = %x, %d", b, e)
	}
	checkFits(t, 5, nodes.Empty(1, 0), api.OK)
	checkFits(t, 5, nodes.Empty(0, 2), api.ErrFit)
	checkFits(t, 4, nodes.Empty(1, 0), api.ErrFit)
	checkFits(t, 0, nodes.Empty(0, 0), api.ErrArg)
	for _, x := range []struct {
		b    []byte
		want api.Errno
	}{
		{nil, api.ErrShort},
		{[]byte{}, api.ErrShort},
		{[]byte{6}, api.ErrArg},
		{[]byte{0}, api.ErrShort},
		{append([]byte{1}, make([]byte, 137)...), api.ErrForm},
	} {
		if got, e := nodes.Get(x.b); got != (api.Node{}) || e != x.want {
			t.Errorf("Get(%x) = %v, %d, want %d", x.b, got, e, x.want)
		}
	}
	checkBad(t, api.Node{Level: 1, Records: [4]api.Record{{State: 1}}})
	checkBad(t, api.Node{Level: 6})
}

const (
	counted = "000102030405060708090a0b0c0d0e0f101112131415161718191a1b1c1d1e1f"
	shifted = "0102030405060708090a0b0c0d0e0f101112131415161718191a1b1c1d1e1f20"
	ones    = "ffffffffffffffffffffffffffffffffffffffffffffffffffffffffffffffff"
)

// P13.1, P13.2: nodes with their bytes, and their digests as another program (Python's hashlib) computed them.
func TestKnownNodes(t *testing.T) {
	zeros := func(n int) string { return strings.Repeat("00", n) }
	group := api.Node{Index: 0x01020304, Records: [4]api.Record{
		{State: 1, Nonce: api.Nonce{Shard: 0x01020304, Counter: 0x05060708090a0b0c}, Tag: ascending(0)},
		{},
		{State: 2, Nonce: api.Nonce{Shard: 7, Counter: 9}, Tag: ascending(1)},
		{State: 2, Nonce: api.Nonce{Shard: maxIndex, Counter: maxCounter}, Tag: full()},
	}}
	inner := api.Node{Level: 3, Index: 0x01020304, Entries: [4]api.Entry{{State: 1, Digest: ascending(0)}, {}, {State: 2, Digest: ascending(1)}, {State: 2, Digest: full()}}}
	for _, x := range []struct {
		node   api.Node
		bytes  string
		digest string
	}{
		{api.Node{}, zeros(185), "babd6f664158d665504571b169a1e81ef75470cdca4fdd7d95be6cdb7826136d"},
		{api.Node{Level: 1}, "01" + zeros(136), "49ececc521296fd01030020f4e92c6614e386f50caf9938917f7dea046c6277e"},
		{api.Node{Level: 2}, "02" + zeros(136), "cdc5acd7f9c657dde09ca8ccb546eb161b7ac07cc9c5b4b76a2f0bbc04f321ff"},
		{api.Node{Level: 3}, "03" + zeros(136), "6e4289a917ae50e6f013cdc27eec4a37bc0a0248f71c2764bd6093b0e468592a"},
		{api.Node{Level: 4}, "04" + zeros(136), "1543a187f2a12f6f880da0d4f511212e8eeafde08d99993615f668fae98d1406"},
		{api.Node{Level: 5}, "05" + zeros(136), "3662e7fa1bf4af53787ffd7b1c45218d5e0d77ac8b132228aadefb61d0c98031"},
		{api.Node{Level: 1, Index: 2}, "0100000002" + zeros(132), "a5597b4577d69db81798963039f6595b331e06e5249830e265543275595d58df"},
		{api.Node{Index: maxIndex}, "00ffffffff" + zeros(180), "68130a5a61c7cc6dd5cf3214a4446f445a6d059c91a8f49ec93e189b48f18465"},
		{api.Node{Level: 5, Index: maxIndex}, "05ffffffff" + zeros(132), "d28bacdfa0c2634e81981ed5e40e55689490c5000e28dce69546195027924996"},
		{group, "0001020304" + "01" + "01020304" + "05060708090a0b0c" + counted + zeros(45) + "02" + "00000007" + "0000000000000009" + shifted + "02" + "ffffffff" + "ffffffffffffffff" + ones,
			"2cf0feb5594ac3cf3f9866762997ef11d5e3e775c163aa9fcf604227e689d0d5"},
		{inner, "0301020304" + "01" + counted + zeros(33) + "02" + shifted + "02" + ones, "6041f1552f88a65ea35b50b0f48e2afcae372ee3ce28014b6c9f212ee8c5f3ff"},
	} {
		want := unhex(t, x.bytes)
		if e := nodes.Check(x.node); e != api.OK {
			t.Errorf("Check(%v): error %d", x.node, e)
		}
		if b, e := nodes.Put(x.node); !bytes.Equal(b, want) || e != api.OK {
			t.Errorf("Put(%v) = %x, %d, want %s", x.node, b, e, x.bytes)
		}
		if d, e := nodes.Digest(x.node); hex.EncodeToString(d[:]) != x.digest || e != api.OK {
			t.Errorf("Digest(%v) = %x, %d, want %s", x.node, d, e, x.digest)
		}
		if got, e := nodes.Get(want); got != x.node || e != api.OK {
			t.Errorf("Get(%s) = %v, %d, want %v", x.bytes, got, e, x.node)
		}
	}
}

// P13.1, P13.2, P13.7: valid nodes of all levels have the bytes of the definition and their digest, and Get inverts Put.
func TestValidNodes(t *testing.T) {
	for _, x := range validNodes() {
		want := nodeBytes(x)
		if e := nodes.Check(x); e != api.OK {
			t.Fatalf("Check(%v): error %d", x, e)
		}
		if b, e := nodes.Put(x); !bytes.Equal(b, want) || e != api.OK {
			t.Fatalf("Put(%v) = %x, %d, want %x", x, b, e, want)
		}
		if d, e := nodes.Digest(x); d != digests.Of(want) || e != api.OK {
			t.Fatalf("Digest(%v) = %x, %d, want %x", x, d, e, digests.Of(want))
		}
		if got := read(t, want); got != x {
			t.Fatalf("Get(%x) = %v, want %v", want, got, x)
		}
	}
}

// P13.1, R3: levels above MaxLevel, parts of the other kind, and parts that are not valid, in each place and in several.
func TestBadNodes(t *testing.T) {
	for _, x := range badNodes() {
		checkBad(t, x)
	}
}

// testStates checks nodes with each State in each place, with a part that is zero otherwise, and with one that is not.
func testStates[T comparable](t *testing.T, k kind[T], part func(state uint8, tag api.Digest) T) {
	for state := range 256 {
		for _, tag := range []api.Digest{{}, {31: 1}} {
			good := state == 1 || state == 2 || state == 0 && tag == api.Digest{}
			for which := range 4 {
				for _, level := range k.levels {
					x := k.single(level, 9, which, part(uint8(state), tag))
					if !good {
						checkBad(t, x)
					} else if e := nodes.Check(x); e != api.OK {
						t.Fatalf("Check(%v): error %d", x, e)
					}
					read(t, nodeBytes(x))
				}
			}
		}
	}
}

// P13.1, P13.2: each State from 0 to 255 in each place.
func TestStates(t *testing.T) {
	testStates(t, recordKind(), func(state uint8, tag api.Digest) api.Record { return api.Record{State: state, Tag: tag} })
	testStates(t, entryKind(), func(state uint8, tag api.Digest) api.Entry { return api.Entry{State: state, Digest: tag} })
}

// P13.1: any single bit of the other kind is refused.
func TestBitsOfTheOtherKind(t *testing.T) {
	for which := range 4 {
		for bit := range 8 * 33 {
			var x api.Node
			p := &x.Entries[which]
			if bit < 8 {
				p.State = 1 << bit
			} else {
				p.Digest[bit/8-1] = 1 << (bit % 8)
			}
			checkBad(t, x)
		}
		for bit := range 8 * 45 {
			b := make([]byte, 45)
			b[bit/8] = 1 << (bit % 8)
			r := api.Record{State: b[0], Tag: api.Digest(b[13:])}
			for _, v := range b[1:5] {
				r.Nonce.Shard = r.Nonce.Shard<<8 | uint32(v)
			}
			for _, v := range b[5:13] {
				r.Nonce.Counter = r.Nonce.Counter<<8 | uint64(v)
			}
			for level := uint8(1); level <= 5; level++ {
				checkBad(t, recordKind().single(level, 0, which, r))
			}
		}
	}
}

// P13.2, R2: bytes of every length with every first byte, so that each fault comes in its order. Bytes behind the end, in the capacity, do not count.
func TestGetLengths(t *testing.T) {
	lengths := []int{255, 256, 257, 269, 273, 277, 393, 512, 4096, 65536 + 137, 65536 + 185}
	for n := range 200 {
		lengths = append(lengths, n)
	}
	for first := range 256 {
		for _, rest := range []byte{0, 1, 0xff} {
			long := bytes.Repeat([]byte{rest}, 66000)
			long[0] = byte(first)
			for _, n := range lengths {
				read(t, long[:n])
				read(t, long[:n:n])
			}
		}
	}
}

// P13.2: one byte too few and one too many for the bytes of a node of each level, and the first byte alone, also if what is too much is zero.
func TestGetOfCutBytes(t *testing.T) {
	for level := range byte(6) {
		x := api.Node{Level: level, Index: 7}
		if level == 0 {
			x.Records = [4]api.Record{{State: 1}, {State: 2}, {State: 1}, {State: 2, Tag: full()}}
		} else {
			x.Entries = [4]api.Entry{{State: 1}, {State: 2}, {State: 1}, {State: 2, Digest: full()}}
		}
		b := nodeBytes(x)
		if got := read(t, b); got != x {
			t.Errorf("Get(%x) = %v, want %v", b, got, x)
		}
		for n := 1; n < len(b); n++ {
			if got, e := nodes.Get(b[:n]); got != (api.Node{}) || e != api.ErrShort {
				t.Errorf("Get(%d of %d bytes) = %v, %d, want ErrShort", n, len(b), got, e)
			}
			if got, e := nodes.Get(append(bytes.Clone(b), make([]byte, n)...)); got != (api.Node{}) || e != api.ErrForm {
				t.Errorf("Get(%d bytes and %d too many) = %v, %d, want ErrForm", len(b), n, got, e)
			}
		}
	}
}

// P13.2, R3: the bytes of nodes with parts that are not valid, in each place and in several, have no node.
func TestGetOfFaultyParts(t *testing.T) {
	for _, x := range slices.Concat(recordKind().faultyNodes(), entryKind().faultyNodes()) {
		b := nodeBytes(x)
		if got, e := nodes.Get(b); got != (api.Node{}) || e != api.ErrArg {
			t.Fatalf("Get(%x) = %v, %d, want ErrArg", b, got, e)
		}
		// A fault of the length comes first.
		if got, e := nodes.Get(b[:len(b)-1]); got != (api.Node{}) || e != api.ErrShort {
			t.Fatalf("Get(%x) = %v, %d, want ErrShort", b[:len(b)-1], got, e)
		}
		if got, e := nodes.Get(append(b, 0)); got != (api.Node{}) || e != api.ErrForm {
			t.Fatalf("Get(%x) = %v, %d, want ErrForm", append(b, 0), got, e)
		}
	}
}

// P13.2: each byte of a node has its place, whatever its value is.
func TestGetOfEachByte(t *testing.T) {
	for _, x := range []api.Node{
		{Index: 5},
		{Records: [4]api.Record{{State: 1}, {State: 2}, {State: 1}, {State: 2}}},
		{Level: 1, Index: 6},
		{Level: 2, Entries: [4]api.Entry{{State: 1}, {State: 2}, {State: 1}, {State: 2}}},
		{Level: 5, Index: maxIndex, Entries: [4]api.Entry{{}, {State: 2, Digest: full()}, {}, {State: 1}}},
	} {
		b := nodeBytes(x)
		for at := range b {
			for value := range 256 {
				changed := bytes.Clone(b)
				changed[at] = byte(value)
				got := read(t, changed)
				if e := wantOfGet(changed); e == api.OK && (got == x) != bytes.Equal(b, changed) {
					t.Fatalf("Get(%x) = %v, and for %x it is %v", b, x, changed, got)
				}
			}
		}
	}
}

// P13.2, P13.7: Get accepts only bytes that Put returns.
func TestGetOfAnyBytes(t *testing.T) {
	draw, accepted := drawer(13), 0
	for range 40000 {
		b := make([]byte, 137+48*(draw()%2))
		if draw()%8 == 0 {
			b = make([]byte, draw()%400)
		}
		for i := range b {
			b[i] = byte(draw() >> 20)
		}
		if len(b) == 185 {
			b[0] = byte(draw() % 2 * draw() % 8)
		} else if len(b) == 137 {
			b[0] = byte(draw() % 7)
		}
		for i := 5; i < len(b); i++ {
			if (len(b) == 137 && (i-5)%33 == 0 || len(b) == 185 && (i-5)%45 == 0) && draw()%32 != 0 {
				b[i] = byte(1 + draw()%2)
			}
		}
		read(t, b)
		if wantOfGet(b) == api.OK {
			accepted++
		}
	}
	if accepted < 10000 {
		t.Errorf("only %d of the bytes are those of nodes", accepted)
	}
}

// wantCounts returns the counts of the levels by the formula of chapter 12.
func wantCounts(n int) []int {
	var l []int
	for {
		n = (n + 3) / 4
		l = append(l, n)
		if n == 1 {
			return l
		}
	}
}

// wantParts returns how many parts of a place exist: those below n, or below the count of the level below.
func wantParts(n, level, index int) int {
	below := n
	if level > 0 {
		below = wantCounts(n)[level-1]
	}
	exist := 0
	for which := range 4 {
		if 4*index+which < below {
			exist++
		}
	}
	return exist
}

// someOf returns all indices of a level with few places, otherwise the first, the last, and some between.
func someOf(count int) []int {
	var l []int
	for j := range count {
		if count <= 65 || j < 3 || j > count-4 || j%97 == 0 {
			l = append(l, j)
		}
	}
	return l
}

// testFits checks nodes of all places with each set of parts that are not zero: only those that exist may be.
func testFits[T comparable](t *testing.T, k kind[T]) {
	for _, n := range allNumbers {
		for level, count := range wantCounts(n) {
			if !slices.Contains(k.levels, uint8(level)) {
				continue
			}
			for _, j := range someOf(count) {
				exist := wantParts(n, level, j)
				for mask := range 16 {
					want := api.OK
					if mask>>exist != 0 {
						want = api.ErrFit
					}
					var zero T
					for _, p := range k.valid[:3] {
						checkFits(t, n, k.masked(uint8(level), uint32(j), mask, p, zero), want)
					}
				}
			}
		}
	}
}

// P13.3
func TestFits(t *testing.T) {
	testFits(t, recordKind())
	testFits(t, entryKind())
}

// P13.3: for all numbers of blocks, the places are those of the shape, and not the ones beyond.
func TestFitsOfAllNumbers(t *testing.T) {
	for n := 1; n <= 4096; n++ {
		counts := wantCounts(n)
		for level, count := range counts {
			checkFits(t, n, nodes.Empty(uint8(level), 0), api.OK)
			checkFits(t, n, nodes.Empty(uint8(level), uint32(count-1)), api.OK)
			checkFits(t, n, nodes.Empty(uint8(level), uint32(count)), api.ErrFit)
		}
		for level := len(counts); level <= 5; level++ {
			checkFits(t, n, nodes.Empty(uint8(level), 0), api.ErrFit)
		}
		for _, level := range []uint8{6, 7, 255} {
			checkFits(t, n, nodes.Empty(level, 0), api.ErrArg)
		}
		exist := wantParts(n, 0, counts[0]-1)
		for which := range 4 {
			want := api.OK
			if which >= exist {
				want = api.ErrFit
			}
			checkFits(t, n, recordKind().single(0, uint32(counts[0]-1), which, api.Record{State: 1}), want)
		}
	}
}

// P13.3: indices beyond a level, up to the greatest one, among them those that lose high bits into the range.
func TestFitsBeyond(t *testing.T) {
	for _, n := range allNumbers {
		counts := wantCounts(n)
		for level := range 6 {
			count := 0
			if level < len(counts) {
				count = counts[level]
			}
			for _, index := range []int{count, count + 1, count + 3, 2*count + 4, 4096, 1 << 16, 1<<16 + 1, 1 << 24, 1<<31 - 1, 1 << 31, 1<<31 + 1, maxIndex - 1, maxIndex} {
				if index < count {
					continue
				}
				checkFits(t, n, nodes.Empty(uint8(level), uint32(index)), api.ErrFit)
				if level == 0 {
					checkFits(t, n, recordKind().single(0, uint32(index), 0, api.Record{State: 1}), api.ErrFit)
				} else {
					checkFits(t, n, entryKind().single(uint8(level), uint32(index), 0, api.Entry{State: 1}), api.ErrFit)
				}
			}
		}
	}
}

// P13.3, R2: the error of the number of blocks, then that of the node, then ErrFit.
func TestOrderOfFits(t *testing.T) {
	fit, unfit := nodes.Empty(0, 0), nodes.Empty(5, maxIndex)
	for _, n := range badNumbers {
		for _, x := range []api.Node{fit, unfit, nodes.Empty(1, 0), nodes.Empty(6, 0), {Records: [4]api.Record{{State: 3}}}, {Level: 1, Records: [4]api.Record{{State: 1}}}} {
			checkFits(t, n, x, api.ErrArg)
		}
	}
	for _, n := range []int{1, 5, 17, 4096} {
		for _, x := range badNodes() {
			checkFits(t, n, x, api.ErrArg)
			x.Index = maxIndex
			checkFits(t, n, x, api.ErrArg)
		}
	}
}

// P13.4: all levels, and indices up to the greatest one.
func TestEmpty(t *testing.T) {
	for level := range 256 {
		for _, index := range allIndices {
			got := nodes.Empty(uint8(level), index)
			if got != (api.Node{Level: uint8(level), Index: index}) {
				t.Errorf("Empty(%d, %d) = %v", level, index, got)
			}
			if e := nodes.Check(got); (e == api.OK) != (level <= 5) {
				t.Errorf("Check(Empty(%d, %d)): error %d", level, index, e)
			}
		}
	}
}

// testWith replaces each part of valid nodes, also by the zero part and by the one that is there.
func testWith[T comparable](t *testing.T, k kind[T]) {
	var zero T
	for _, x := range k.validNodes() {
		for which := range 4 {
			for _, p := range append(k.valid, zero, k.parts(&x)[which]) {
				before, want := x, x
				k.parts(&want)[which] = p
				got, e := k.with(x, which, p)
				if got != want || e != api.OK {
					t.Fatalf("With%s(%v, %d, %v) = %v, %d", k.name, x, which, p, got, e)
				}
				if x != before {
					t.Fatalf("With%s changed %v to %v", k.name, before, x)
				}
			}
		}
	}
}

// P13.5, P13.7: the part is another one, and all others stay.
func TestWith(t *testing.T) {
	testWith(t, recordKind())
	testWith(t, entryKind())
}

// refuse fails if a part is replaced, or something is returned with the error.
func (k kind[T]) refuse(t *testing.T, x api.Node, which int, p T) {
	t.Helper()
	if got, e := k.with(x, which, p); got != (api.Node{}) || e != api.ErrArg {
		t.Fatalf("With%s(%v, %d, %v) = %v, %d, want ErrArg", k.name, x, which, p, got, e)
	}
}

// testBadWith checks each reason for which a part is not replaced.
func testBadWith[T comparable](t *testing.T, k kind[T]) {
	var zero T
	for _, level := range k.levels {
		for _, x := range []api.Node{nodes.Empty(level, 0), k.single(level, maxIndex, 2, k.valid[2])} {
			for _, which := range badParts {
				for _, p := range []T{zero, k.valid[0], k.valid[2], k.bad[0]} {
					k.refuse(t, x, which, p)
				}
			}
			for which := range 4 {
				for _, p := range k.bad {
					k.refuse(t, x, which, p)
				}
			}
		}
	}
	for _, x := range badNodes() {
		for which := range 4 {
			// Also if the replaced part is the only one that is not valid.
			for _, p := range []T{zero, k.valid[2], k.bad[0]} {
				k.refuse(t, x, which, p)
			}
		}
		k.refuse(t, x, -1, zero)
		k.refuse(t, x, 4, k.valid[0])
	}
	for _, level := range k.others {
		for which := -1; which <= 4; which++ {
			for _, p := range []T{zero, k.valid[0], k.valid[2], k.bad[0]} {
				k.refuse(t, nodes.Empty(level, 1), which, p)
			}
		}
	}
}

// P13.5, R3: parts with other numbers, nodes that are not valid, parts that the node does not have, parts that are not valid.
func TestBadWith(t *testing.T) {
	testBadWith(t, recordKind())
	testBadWith(t, entryKind())
	// Nodes that have parts are not changed to nodes of the other kind.
	for _, x := range recordKind().validNodes() {
		entryKind().refuse(t, x, 0, api.Entry{})
	}
	for _, x := range entryKind().validNodes() {
		recordKind().refuse(t, x, 0, api.Record{})
	}
}

// P13.6: all levels, all sets of parts of both kinds, and all States, whether the node is valid or not.
func TestUsed(t *testing.T) {
	for level := range 256 {
		for mask := range 16 {
			for other := range 16 {
				x := api.Node{Level: uint8(level), Index: uint32(mask)}
				for i := range 4 {
					x.Records[i].State, x.Entries[i].State = uint8(mask>>i&1), uint8(other>>i&1)*255
				}
				used := mask
				if level > 0 {
					used = other
				}
				want := bits.OnesCount(uint(used))
				if got := nodes.Used(x); got != want {
					t.Fatalf("Used(%v) = %d, want %d", x, got, want)
				}
			}
		}
	}
}

// testUsed checks that only the State counts, in each place.
func testUsed[T comparable](t *testing.T, k kind[T]) {
	levels := k.levels
	if levels[0] > 0 {
		levels = append(levels, 6, 7, 255)
	}
	for _, level := range levels {
		for _, p := range slices.Concat(k.valid, k.bad) {
			for mask := range 16 {
				var zero T
				want := 0
				if k.bytes(p)[0] != 0 {
					want = bits.OnesCount(uint(mask))
				}
				x := k.masked(level, maxIndex, mask, p, zero)
				if got := nodes.Used(x); got != want {
					t.Fatalf("Used(%v) = %d, want %d", x, got, want)
				}
			}
		}
	}
}

// P13.6: a State that is not 0 counts, also above 2; a digest, a nonce or a tag without one does not.
func TestUsedParts(t *testing.T) {
	testUsed(t, recordKind())
	testUsed(t, entryKind())
	for _, x := range slices.Concat(recordKind().strangeNodes(), entryKind().strangeNodes()) {
		if got := nodes.Used(x); got != 0 {
			t.Fatalf("Used(%v) = %d, want 0: the parts are those of the other kind", x, got)
		}
	}
}

// P13.7: different nodes have different bytes and different digests.
func TestNodesDiffer(t *testing.T) {
	byBytes, byDigest := map[string]api.Node{}, map[api.Digest]api.Node{}
	for _, x := range validNodes() {
		b, _ := nodes.Put(x)
		d, _ := nodes.Digest(x)
		if y, ok := byBytes[string(b)]; ok && y != x {
			t.Fatalf("%v and %v have the same bytes", x, y)
		}
		if y, ok := byDigest[d]; ok && y != x {
			t.Fatalf("%v and %v have the same digest", x, y)
		}
		byBytes[string(b)], byDigest[d] = x, x
	}
	if len(byBytes) != len(byDigest) || len(byBytes) < 500 {
		t.Errorf("%d strings, %d digests", len(byBytes), len(byDigest))
	}
}

// testReplaced checks that a node that fits still fits when a part that exists is replaced, and no longer when one is that does not.
func testReplaced[T comparable](t *testing.T, k kind[T]) {
	draw := drawer(137)
	for _, n := range allNumbers {
		for level, count := range wantCounts(n) {
			if !slices.Contains(k.levels, uint8(level)) {
				continue
			}
			for _, j := range someOf(count) {
				x := nodes.Empty(uint8(level), uint32(j))
				exist := wantParts(n, level, j)
				for i := range 12 {
					p := k.draw(draw)
					y, e := k.with(x, i%4, p)
					if e != api.OK {
						t.Fatalf("With%s(%v, %d, %v): error %d", k.name, x, i%4, p, e)
					}
					var zero T
					if i%4 < exist || p == zero {
						checkFits(t, n, y, api.OK)
						x = y
					} else {
						checkFits(t, n, y, api.ErrFit)
					}
				}
			}
		}
	}
}

// P13.7
func TestReplacedPartsFit(t *testing.T) {
	testReplaced(t, recordKind())
	testReplaced(t, entryKind())
}

// R4: bytes are new ones without spare capacity, and a node that was read stays when the bytes change.
func TestMemory(t *testing.T) {
	for _, x := range validNodes() {
		first, _ := nodes.Put(x)
		second, _ := nodes.Put(x)
		if cap(first) != len(first) {
			t.Fatalf("Put(%v): %d bytes with a capacity of %d", x, len(first), cap(first))
		}
		got, _ := nodes.Get(second)
		if !bytes.Equal(second, nodeBytes(x)) {
			t.Fatalf("Get changed %x to %x", nodeBytes(x), second)
		}
		for i := range first {
			first[i]++
		}
		if !bytes.Equal(second, nodeBytes(x)) {
			t.Fatalf("two results of Put(%v) share memory", x)
		}
		for i := range second {
			second[i]++
		}
		if got != x {
			t.Fatalf("what Get returned shares memory with the bytes: %v, want %v", got, x)
		}
		if b, e := nodes.Put(x); !bytes.Equal(b, nodeBytes(x)) || e != api.OK {
			t.Fatalf("Put(%v) = %x, %d, after its results were changed", x, b, e)
		}
	}
}

// R4: bytes that are refused are not changed either, nor what lies behind them.
func TestArgumentsAreNotChanged(t *testing.T) {
	for _, first := range []byte{0, 1, 5, 6, 255} {
		for _, rest := range []byte{0, 1, 7} {
			for n := range 200 {
				b := bytes.Repeat([]byte{rest}, 220)
				b[0] = first
				kept := bytes.Clone(b)
				nodes.Get(b[:n])
				if !bytes.Equal(b, kept) {
					t.Errorf("%d bytes with the first one %d were changed: %x", n, first, b)
				}
			}
		}
	}
}

// R5: results depend on nothing that calls leave behind, or that happens at the same time.
func TestCallsAreIndependent(t *testing.T) {
	l := validNodes()
	work := func(i int) string {
		x := l[i*7%len(l)]
		b, e := nodes.Put(x)
		got, e2 := nodes.Get(b)
		d, e3 := nodes.Digest(got)
		y, e4 := nodes.WithRecord(x, i%4, api.Record{State: 2})
		z, e5 := nodes.WithEntry(x, i%4, api.Entry{State: 1})
		return fmt.Sprint(b, got, d, y, z, e, e2, e3, e4, e5, nodes.Fits(i, x), nodes.Used(x), nodes.Check(y))
	}
	var first, again [64]string
	for i := range first {
		first[i] = work(i)
	}
	var group sync.WaitGroup
	for i := range again {
		group.Go(func() { again[63-i] = work(63 - i) })
	}
	group.Wait()
	for i := range first {
		if first[i] != again[i] {
			t.Errorf("the calls %d returned %s and %s", i, first[i], again[i])
		}
	}
}
