package loads_test

import (
	"bytes"
	"crypto/aes"
	"crypto/cipher"
	"crypto/hmac"
	"crypto/sha256"
	"encoding/binary"
	"maps"
	"math"
	"slices"
	"testing"

	"caisson/api"
	"caisson/derives"
	"caisson/disks"
	"caisson/loads"
	"caisson/shapes"
)

// What a volume is, and what is accepted from its disk, by the definitions, without any of the layers below but the disk.

var badNumbers = []int{0, -1, -2, -4, -5, -4096, 4097, 4098, 5000, 1 << 16, 1 << 32, 1<<32 + 1, 1<<32 + 5, 1 - 1<<32, math.MinInt, math.MinInt + 1, math.MaxInt - 1, math.MaxInt}

// badBlocks returns blocks that do not exist.
func badBlocks(n int) []int {
	return []int{-1, -2, -n, n, n + 1, 4097, 1 << 16, 1 << 32, 1<<32 + 1, -1 << 32, 1 - 1<<32, math.MinInt, math.MinInt + 1, math.MaxInt - 1, math.MaxInt}
}

// drawer returns a function whose results are always the same sequence of numbers without a visible rule.
func drawer(seed uint64) func(n int) int {
	return func(n int) int {
		seed += 0x9e3779b97f4a7c15
		z := (seed ^ seed>>30) * 0xbf58476d1ce4e5b9
		z = (z ^ z>>27) * 0x94d049bb133111eb
		return int((z ^ z>>31) >> 11 % uint64(n))
	}
}

func place(level, index int) shapes.Place { return shapes.Place{Level: level, Index: index} }

// span returns how many blocks are below a place of a level if none is missing.
func span(level int) int { return 1 << (2 * (level + 1)) }

func countOf(n, level int) int { return (n + span(level) - 1) / span(level) }

func heightOf(n int) int {
	level := 0
	for countOf(n, level) > 1 {
		level++
	}
	return level
}

// places returns all places, by level and then by index.
func places(n int) []shapes.Place {
	var l []shapes.Place
	for level := 0; level <= heightOf(n); level++ {
		for index := 0; index < countOf(n, level); index++ {
			l = append(l, place(level, index))
		}
	}
	return l
}

// numberOf returns how many places there are before a place.
func numberOf(n int, p shapes.Place) int {
	number := p.Index
	for level := range p.Level {
		number += countOf(n, level)
	}
	return number
}

func dataSector(block, slot int) int { return 2*block + slot }

func nodeSector(n int, p shapes.Place, slot int) int { return 2*(n+numberOf(n, p)) + slot }

// rootSector returns the sector of the root in a slot.
func rootSector(n, slot int) int { return nodeSector(n, place(heightOf(n), 0), slot) }

// sizeOf returns how many sectors the disk of a number of blocks has.
func sizeOf(n int) int { return rootSector(n, 1) + 1 }

// partsOf returns how many parts of a place exist.
func partsOf(n int, p shapes.Place) int {
	all := n
	if p.Level > 0 {
		all = countOf(n, p.Level-1)
	}
	return min(4, all-4*p.Index)
}

// pathOf returns the places from the root to the group of a block.
func pathOf(n, block int) []shapes.Place {
	var l []shapes.Place
	for level := heightOf(n); level >= 0; level-- {
		l = append(l, place(level, block/span(level)))
	}
	return l
}

// turn returns which part of the node of a level the path of a block goes on with.
func turn(level, block int) int { return block * 4 / span(level) % 4 }

// nodeBytes returns the bytes of a node, whether it is valid or not.
func nodeBytes(x api.Node) []byte {
	b := binary.BigEndian.AppendUint32([]byte{x.Level}, x.Index)
	for i := range 4 {
		if x.Level == 0 {
			r := x.Records[i]
			b = binary.BigEndian.AppendUint32(append(b, r.State), r.Nonce.Shard)
			b = append(binary.BigEndian.AppendUint64(b, r.Nonce.Counter), r.Tag[:]...)
		} else {
			b = append(append(b, x.Entries[i].State), x.Entries[i].Digest[:]...)
		}
	}
	return b
}

func digestOf(x api.Node) api.Digest { return sha256.Sum256(nodeBytes(x)) }

// parse returns the valid node with given bytes, or false if there is none.
func parse(b []byte) (api.Node, bool) {
	if len(b) == 0 || b[0] > 5 || len(b) != len(nodeBytes(api.Node{Level: b[0]})) {
		return api.Node{}, false
	}
	x := api.Node{Level: b[0], Index: binary.BigEndian.Uint32(b[1:])}
	size := (len(b) - 5) / 4
	for i := range 4 {
		part := b[5+i*size : 5+(i+1)*size]
		if part[0] > 2 || part[0] == 0 && !bytes.Equal(part, make([]byte, size)) {
			return api.Node{}, false
		}
		if x.Level == 0 {
			nonce := api.Nonce{Shard: binary.BigEndian.Uint32(part[1:]), Counter: binary.BigEndian.Uint64(part[5:])}
			x.Records[i] = api.Record{State: part[0], Nonce: nonce, Tag: api.Digest(part[13:])}
		} else {
			x.Entries[i] = api.Entry{State: part[0], Digest: api.Digest(part[1:])}
		}
	}
	return x, true
}

// fits tells whether a valid node fits the shape.
func fits(n int, x api.Node) bool {
	if int(x.Level) > heightOf(n) || int64(x.Index) >= int64(countOf(n, int(x.Level))) {
		return false
	}
	for i := partsOf(n, place(int(x.Level), int(x.Index))); i < 4; i++ {
		if x.Records[i] != (api.Record{}) || x.Entries[i] != (api.Entry{}) {
			return false
		}
	}
	return true
}

// valid tells whether a node is one that parse can return.
func valid(x api.Node) bool {
	y, ok := parse(nodeBytes(x))
	return ok && x == y
}

// seal returns the ciphertext and the tag of a block.
func seal(k derives.Keys, block int, nonce api.Nonce, plain api.Block) (data []byte, tag api.Digest) {
	data = stream(k, nonce, plain[:])
	return data, tagOf(k, block, nonce, data)
}

func stream(k derives.Keys, nonce api.Nonce, b []byte) []byte {
	counter := binary.BigEndian.AppendUint32(nil, nonce.Shard)
	counter = append(binary.BigEndian.AppendUint64(counter, nonce.Counter), 0, 0, 0, 0)
	c, err := aes.NewCipher(k.Enc[:])
	if err != nil {
		panic(err)
	}
	out := make([]byte, len(b))
	cipher.NewCTR(c, counter).XORKeyStream(out, b)
	return out
}

func tagOf(k derives.Keys, block int, nonce api.Nonce, data []byte) api.Digest {
	m := binary.BigEndian.AppendUint32(nil, uint32(block))
	m = binary.BigEndian.AppendUint32(m, nonce.Shard)
	m = append(binary.BigEndian.AppendUint64(m, nonce.Counter), data...)
	h := hmac.New(sha256.New, k.Mac[:])
	h.Write(m)
	return api.Digest(h.Sum(nil))
}

// volume is a disk as a value of its own, with a cell and keys.
type volume struct {
	n       int
	sectors map[int][]byte // those that are not absent
	disk    disks.Disk     // with these sectors
	cell    api.Cell
	keys    derives.Keys
	nodes   []api.Node // of the tree that was stored, by level and then by index
	slots   []int      // of these nodes
	records []api.Record
}

// source is what a volume is made from.
type source struct {
	n     int
	state func(block int) uint8 // of its record
	slot  func(number int) int  // of the node at a place; that of the root is told by the epoch
	epoch uint64
}

func plainOf(block int) api.Block {
	var b api.Block
	for i := range b {
		b[i] = byte(block*7 + i)
	}
	b[30], b[31] = byte(block>>8), byte(block)
	return b
}

func nonceOf(block int) api.Nonce {
	return api.Nonce{Shard: uint32(block % 8), Counter: 0x0102030405060708 + uint64(block)}
}

func keysOf(first byte) derives.Keys {
	var k derives.Keys
	for i := range k.Enc {
		k.Enc[i] = first + byte(i)
	}
	for i := range k.Mac {
		k.Mac[i] = first ^ byte(5*i+1)
	}
	return k
}

// volumeOf returns a volume of which nothing but a tree, where it is not empty, and the data of its records are on the disk.
func volumeOf(t *testing.T, s source) volume {
	t.Helper()
	v := volume{n: s.n, sectors: map[int][]byte{}, keys: keysOf(0x31)}
	v.records = make([]api.Record, s.n)
	for block := range s.n {
		if state := s.state(block); state > 0 {
			data, tag := seal(v.keys, block, nonceOf(block), plainOf(block))
			v.records[block] = api.Record{State: state, Nonce: nonceOf(block), Tag: tag}
			v.sectors[dataSector(block, int(state)-1)] = data
		}
	}
	all := places(s.n)
	for number, p := range all {
		slot := s.slot(number)
		if number == len(all)-1 {
			slot = int(s.epoch % 2)
		}
		x := v.nodeOf(p)
		v.nodes, v.slots = append(v.nodes, x), append(v.slots, slot)
		if !isEmpty(x) || number == len(all)-1 {
			v.sectors[nodeSector(s.n, p, slot)] = nodeBytes(x)
		}
	}
	v.cell = api.Cell{Root: digestOf(v.nodes[len(all)-1]), Epoch: s.epoch, Mark: 1 << 60}
	v.disk = diskOf(t, sizeOf(s.n), v.sectors)
	return v
}

// nodeOf returns the node at a place, of whose children the nodes are there already.
func (v volume) nodeOf(p shapes.Place) api.Node {
	x := api.Node{Level: uint8(p.Level), Index: uint32(p.Index)}
	for which := range partsOf(v.n, p) {
		i := 4*p.Index + which
		if p.Level == 0 {
			x.Records[which] = v.records[i]
			continue
		}
		number := numberOf(v.n, place(p.Level-1, i))
		if child := v.nodes[number]; !isEmpty(child) {
			x.Entries[which] = api.Entry{State: uint8(v.slots[number] + 1), Digest: digestOf(child)}
		}
	}
	return x
}

func isEmpty(x api.Node) bool { return x == api.Node{Level: x.Level, Index: x.Index} }

func diskOf(t *testing.T, size int, sectors map[int][]byte) disks.Disk {
	t.Helper()
	d, e := disks.New(size)
	for _, sector := range slices.Sorted(maps.Keys(sectors)) {
		if e == api.OK {
			d, e = d.Write(sector, sectors[sector])
		}
	}
	if e != api.OK {
		t.Fatalf("a disk of %d sectors: error %d", size, e)
	}
	return d
}

// with returns the volume with another content of a sector.
func (v volume) with(t *testing.T, sector int, b []byte) volume {
	t.Helper()
	v.sectors = maps.Clone(v.sectors)
	v.sectors[sector] = slices.Clone(b)
	d, e := v.disk.Write(sector, b)
	if e != api.OK {
		t.Fatalf("writing %d bytes to sector %d: error %d", len(b), sector, e)
	}
	v.disk = d
	return v
}

// without returns the volume with a sector that is absent.
func (v volume) without(t *testing.T, sector int) volume {
	t.Helper()
	v.sectors = maps.Clone(v.sectors)
	delete(v.sectors, sector)
	d, e := v.disk.Erase(sector)
	if e != api.OK {
		t.Fatalf("erasing sector %d: error %d", sector, e)
	}
	v.disk = d
	return v
}

// under returns the volume with another root in its cell.
func (v volume) under(root api.Digest) volume {
	v.cell.Root = root
	return v
}

// result is what a function returns.
type result[T any] struct {
	value   T
	problem loads.Problem
	err     api.Errno
}

func of[T any](value T, p loads.Problem, e api.Errno) result[T] { return result[T]{value, p, e} }

// good returns the result without an error.
func good[T any](value T) result[T] { return result[T]{value: value} }

// bad returns the result with an error alone.
func bad[T any](e api.Errno) result[T] { return result[T]{err: e} }

// refused returns the result of a sector that is not accepted.
func refused[T any](sector int, f loads.Fault) result[T] {
	return result[T]{problem: loads.Problem{Sector: sector, Fault: f}, err: api.ErrIntegrity}
}

// failed returns a result's problem and error, without its value.
func failed[T, Other any](r result[Other]) result[T] {
	return result[T]{problem: r.problem, err: r.err}
}

// wantNode returns the node that is accepted from the sector of a place in a slot.
func (v volume) wantNode(p shapes.Place, slot int, digest api.Digest) result[api.Node] {
	sector := nodeSector(v.n, p, slot)
	content, there := v.sectors[sector]
	x, ok := parse(content)
	switch {
	case !there:
		return refused[api.Node](sector, loads.Absent)
	case !ok:
		return refused[api.Node](sector, loads.Malformed)
	case int(x.Level) != p.Level || int64(x.Index) != int64(p.Index) || !fits(v.n, x):
		return refused[api.Node](sector, loads.Misplaced)
	case sha256.Sum256(content) != digest:
		return refused[api.Node](sector, loads.Altered)
	}
	return good(x)
}

func (v volume) wantRoot() result[api.Node] {
	return v.wantNode(place(heightOf(v.n), 0), int(v.cell.Epoch&1), v.cell.Root)
}

func (v volume) wantChild(parent api.Node, which int) result[api.Node] {
	switch {
	case !valid(parent) || !fits(v.n, parent) || which < 0 || which > 3:
		return bad[api.Node](api.ErrArg)
	case parent.Level == 0 || parent.Entries[which] == api.Entry{}:
		return bad[api.Node](api.ErrNone)
	}
	entry := parent.Entries[which]
	return v.wantNode(place(int(parent.Level)-1, 4*int(parent.Index)+which), int(entry.State)-1, entry.Digest)
}

func (v volume) wantPath(block int) result[[]api.Node] {
	if block < 0 || block >= v.n {
		return bad[[]api.Node](api.ErrArg)
	}
	var l []api.Node
	digest, slot := v.cell.Root, int(v.cell.Epoch&1)
	for _, p := range pathOf(v.n, block) {
		r := v.wantNode(p, slot, digest)
		if r.err != api.OK {
			return failed[[]api.Node](r)
		}
		l = append(l, r.value)
		next := r.value.Entries[turn(p.Level, block)]
		if next.State == 0 {
			break
		}
		digest, slot = next.Digest, int(next.State)-1
	}
	return good(l)
}

func (v volume) wantRecord(block int) result[api.Record] {
	r := v.wantPath(block)
	if r.err != api.OK {
		return failed[api.Record](r)
	}
	last := r.value[len(r.value)-1]
	if last.Level > 0 {
		return good(api.Record{})
	}
	return good(last.Records[block%4])
}

func (v volume) wantData(block int, r api.Record) result[api.Block] {
	sector := dataSector(block, int(r.State)-1)
	content, there := v.sectors[sector]
	switch {
	case block < 0 || block >= v.n || r.State > 2 || r.State == 0 && r != (api.Record{}):
		return bad[api.Block](api.ErrArg)
	case r.State == 0:
		return good(api.Block{})
	case !there:
		return refused[api.Block](sector, loads.Absent)
	case len(content) != 32:
		return refused[api.Block](sector, loads.Wide)
	case tagOf(v.keys, block, r.Nonce, content) != r.Tag:
		return refused[api.Block](sector, loads.Forged)
	}
	return good(api.Block(stream(v.keys, r.Nonce, content)))
}

func (v volume) wantBlock(block int) result[api.Block] {
	r := v.wantRecord(block)
	if r.err != api.OK {
		return failed[api.Block](r)
	}
	return v.wantData(block, r.value)
}

func compare[T comparable](t *testing.T, what string, got, want result[T]) {
	t.Helper()
	if got != want {
		t.Fatalf("%s is %+v, want %+v", what, got, want)
	}
}

func (v volume) checkRoot(t *testing.T, want result[api.Node]) {
	t.Helper()
	compare(t, "the root", of(loads.Root(v.n, v.disk, v.cell)), want)
}

func (v volume) checkChild(t *testing.T, parent api.Node, which int, want result[api.Node]) {
	t.Helper()
	compare(t, "the child", of(loads.Child(v.n, v.disk, parent, which)), want)
}

// checkPath checks that the path is what it has to be, in memory of its own.
func (v volume) checkPath(t *testing.T, block int, want result[[]api.Node]) {
	t.Helper()
	for range 2 {
		got := of(loads.Path(v.n, v.disk, v.cell, block))
		if !slices.Equal(got.value, want.value) || got.problem != want.problem || got.err != want.err || cap(got.value) != len(got.value) {
			t.Fatalf("%d blocks: the path of block %d is %+v with room for %d, want %+v", v.n, block, got, cap(got.value), want)
		}
		clear(got.value)
	}
}

func (v volume) checkRecord(t *testing.T, block int, want result[api.Record]) {
	t.Helper()
	compare(t, "the record", of(loads.Record(v.n, v.disk, v.cell, block)), want)
}

func (v volume) checkData(t *testing.T, block int, r api.Record, want result[api.Block]) {
	t.Helper()
	compare(t, "the data", of(loads.Data(v.n, v.disk, v.keys, block, r)), want)
}

func (v volume) checkBlock(t *testing.T, block int, want result[api.Block]) {
	t.Helper()
	compare(t, "the block", of(loads.Block(v.n, v.disk, v.cell, v.keys, block)), want)
}

// checkDisk checks that the disk still has the contents that it had.
func (v volume) checkDisk(t *testing.T) {
	t.Helper()
	present := v.disk.Present()
	if len(present) != len(v.sectors) {
		t.Fatalf("the disk has %d sectors that are not absent, want %d", len(present), len(v.sectors))
	}
	for _, sector := range present {
		if b, e := v.disk.Read(sector); e != api.OK || !bytes.Equal(b, v.sectors[sector]) {
			t.Fatalf("sector %d of the disk was changed to %x, %d", sector, b, e)
		}
	}
}

// judge checks what all functions return for a block.
func (v volume) judge(t *testing.T, block int) {
	t.Helper()
	v.checkRoot(t, v.wantRoot())
	v.checkPath(t, block, v.wantPath(block))
	r := v.wantRecord(block)
	v.checkRecord(t, block, r)
	v.checkData(t, block, r.value, v.wantData(block, r.value))
	v.checkBlock(t, block, v.wantBlock(block))
	v.checkDisk(t)
}

// judgeAll does so for all blocks, and for all children of nodes that are accepted.
func (v volume) judgeAll(t *testing.T) {
	t.Helper()
	for block := range v.n {
		v.judge(t, block)
		for _, x := range v.wantPath(block).value {
			for which := -1; which <= 4; which++ {
				v.checkChild(t, x, which, v.wantChild(x, which))
			}
		}
	}
}
