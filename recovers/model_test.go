package recovers_test

import (
	"bytes"
	"crypto/sha256"
	"maps"
	"math"
	"slices"
	"testing"

	"caisson/api"
	"caisson/derives"
	"caisson/disks"
	"caisson/loads"
	"caisson/merkles"
	"caisson/nodes"
	"caisson/seals"
	"caisson/shapes"
)

// The volumes of the tests, and what comes of a disk and a cell by the definitions.

var badNumbers = []int{0, -1, -2, -4, -5, -4096, 4097, 4098, 5000, 1 << 16, 1 << 32, 1<<32 + 1, 1<<32 + 5, 1 - 1<<32, math.MinInt, math.MinInt + 1, math.MaxInt - 1, math.MaxInt}

var smallNumbers = []int{1, 2, 3, 4, 5, 6, 9, 16, 17, 21, 33}

var greatNumbers = []int{64, 65, 256, 257, 1024, 1025, 4095, 4096}

// drawer returns a function whose results are always the same sequence of numbers without a visible rule.
func drawer(seed uint64) func(n int) int {
	return func(n int) int {
		seed += 0x9e3779b97f4a7c15
		z := (seed ^ seed>>30) * 0xbf58476d1ce4e5b9
		z = (z ^ z>>27) * 0x94d049bb133111eb
		return int((z ^ z>>31) >> 11 % uint64(n))
	}
}

func place(level, index int) shapes.Place { return shapes.Place{Level: level, Index: index} }

func rootOf(n int) shapes.Place {
	level, _ := shapes.Height(n)
	return place(level, 0)
}

// upwards returns all places by level, and then by index.
func upwards(n int) []shapes.Place {
	var l []shapes.Place
	for level := range rootOf(n).Level + 1 {
		count, _ := shapes.Count(n, level)
		for index := range count {
			l = append(l, place(level, index))
		}
	}
	return l
}

// downwards returns all places from the root's level on down, and by index in each level.
func downwards(n int) []shapes.Place {
	l := upwards(n)
	slices.SortStableFunc(l, func(a, b shapes.Place) int { return b.Level - a.Level })
	return l
}

func dataSector(block int, r api.Record) int { return 2*block + int(r.State) - 1 }

func nodeSector(n int, p shapes.Place, slot int) int {
	sector, _ := shapes.Node(n, p.Level, p.Index, slot)
	return sector
}

// numberOf returns how many places there are before a place.
func numberOf(n int, p shapes.Place) int { return nodeSector(n, p, 0)/2 - n }

func sizeOf(n int) int {
	size, _ := shapes.Sectors(n)
	return size
}

func emptyNode(p shapes.Place) api.Node {
	return api.Node{Level: uint8(p.Level), Index: uint32(p.Index)}
}

func isEmpty(x api.Node) bool { return x == api.Node{Level: x.Level, Index: x.Index} }

func bytesOf(t *testing.T, x api.Node) []byte {
	t.Helper()
	b, e := nodes.Put(x)
	if e != api.OK {
		t.Fatalf("the bytes of %v: error %d", x, e)
	}
	return b
}

// volume is a disk under a cell, with what was stored there.
type volume struct {
	n       int
	sectors map[int][]byte // those that are not absent
	disk    disks.Disk     // with these sectors
	cell    api.Cell
	keys    derives.Keys

	nodes  []api.Node // of the tree, by level and then by index
	slots  []int      // of these nodes; of those that are empty, but for the root, it is 1
	blocks []api.Block
}

// source is what a volume is made from.
type source struct {
	n      int
	state  func(block int) uint8 // of its record
	slot   func(number int) int  // of the node at a place; that of the root is told by the epoch
	epoch  uint64
	filled bool // empty nodes are stored too, and what is in no use has some content
}

func plainOf(n, block int) api.Block {
	var b api.Block
	for i := range b {
		b[i] = byte(13*block + 7*i + n)
	}
	return b
}

func nonceOf(block int) api.Nonce {
	return api.Nonce{Shard: uint32(block % 8), Counter: uint64(block+1) << (block % 40)}
}

func keysOf(enc, mac byte) derives.Keys {
	var k derives.Keys
	for i := range k.Enc {
		k.Enc[i] = byte(3*i) + enc
	}
	for i := range k.Mac {
		k.Mac[i] = byte(5*i) + mac
	}
	return k
}

func volumeOf(t *testing.T, s source) volume {
	t.Helper()
	v := volume{n: s.n, sectors: map[int][]byte{}, keys: keysOf(1, 2), blocks: make([]api.Block, s.n)}
	for sector := range sizeOf(s.n) {
		if s.filled {
			v.sectors[sector] = bytes.Repeat([]byte{byte(sector)}, []int{32, 185, 137, 0, 256}[sector%5])
		}
	}
	l := v.storeData(t, s.state)
	for number := range upwards(s.n) {
		v.slots = append(v.slots, s.slot(number))
	}
	v.slots[len(v.slots)-1] = int(s.epoch % 2)
	tree, e := merkles.Build(s.n, l, v.slots)
	if e != api.OK {
		t.Fatalf("the tree of %d blocks: error %d", s.n, e)
	}
	v.nodes = tree.Nodes
	v.storeNodes(t, s.filled)
	v.cell = api.Cell{Root: sha256.Sum256(bytesOf(t, v.nodes[len(v.nodes)-1])), Epoch: s.epoch, Mark: 1 << 60}
	v.disk = diskOf(t, sizeOf(s.n), v.sectors)
	return v
}

// storeData stores the data of all blocks, and returns their records.
func (v *volume) storeData(t *testing.T, state func(int) uint8) []api.Record {
	t.Helper()
	l := make([]api.Record, v.n)
	for block := range l {
		s := state(block)
		if s == 0 {
			continue
		}
		v.blocks[block] = plainOf(v.n, block)
		data, tag, e := seals.Seal(v.keys, block, nonceOf(block), v.blocks[block])
		if e != api.OK {
			t.Fatalf("sealing the block %d: error %d", block, e)
		}
		l[block] = api.Record{State: s, Nonce: nonceOf(block), Tag: tag}
		v.sectors[dataSector(block, l[block])] = data[:]
	}
	return l
}

// storeNodes stores the nodes of the tree, with those that are empty or without them.
func (v *volume) storeNodes(t *testing.T, all bool) {
	t.Helper()
	for number, p := range upwards(v.n) {
		if all || v.uses(p) {
			v.sectors[nodeSector(v.n, p, v.slots[number])] = bytesOf(t, v.at(p))
		}
		if !v.uses(p) {
			v.slots[number] = 1
		}
	}
}

// at returns the node that was stored at a place.
func (v volume) at(p shapes.Place) api.Node { return v.nodes[numberOf(v.n, p)] }

// uses tells whether the node at a place is read.
func (v volume) uses(p shapes.Place) bool { return p == rootOf(v.n) || !isEmpty(v.at(p)) }

// sectorOf returns the sector of the node at a place.
func (v volume) sectorOf(p shapes.Place) int { return nodeSector(v.n, p, v.slots[numberOf(v.n, p)]) }

func (v volume) recordOf(block int) api.Record { return v.nodes[block/4].Records[block%4] }

// reads returns the sectors that are read for a block, in order.
func (v volume) reads(block int) []int {
	var l []int
	path, _ := shapes.Path(v.n, block)
	for _, p := range path {
		if v.uses(p) {
			l = append(l, v.sectorOf(p))
		}
	}
	if r := v.recordOf(block); r.State > 0 {
		l = append(l, dataSector(block, r))
	}
	return l
}

func diskOf(t *testing.T, size int, sectors map[int][]byte) disks.Disk {
	t.Helper()
	d, e := disks.New(size)
	for _, sector := range slices.Sorted(maps.Keys(sectors)) {
		if e == api.OK {
			d, e = d.Write(sector, sectors[sector])
		}
	}
	if e != api.OK {
		t.Fatalf("a disk of %d sectors: error %d", size, e)
	}
	return d
}

// with returns the volume with another content of a sector; nil makes it absent.
func (v volume) with(t *testing.T, sector int, b []byte) volume {
	t.Helper()
	v.sectors = maps.Clone(v.sectors)
	d, e := v.disk.Erase(sector)
	delete(v.sectors, sector)
	if b != nil {
		v.sectors[sector] = slices.Clone(b)
		d, e = v.disk.Write(sector, b)
	}
	if e != api.OK {
		t.Fatalf("the bytes %x in the sector %d: error %d", b, sector, e)
	}
	v.disk = d
	return v
}

// linked returns the volume with another node in the slot of its place, where the nodes above it, and the cell, have the digests that it takes to accept it. An entry that is zero stays so.
func (v volume) linked(t *testing.T, x api.Node) volume {
	t.Helper()
	v.nodes = slices.Clone(v.nodes)
	for p := place(int(x.Level), int(x.Index)); ; {
		b := bytesOf(t, x)
		v.nodes[numberOf(v.n, p)] = x
		v = v.with(t, v.sectorOf(p), b)
		parent, which, e := shapes.Parent(v.n, p)
		if e != api.OK {
			v.cell.Root = sha256.Sum256(b)
			return v
		}
		x = v.at(parent)
		if x.Entries[which].State > 0 {
			x.Entries[which].Digest = sha256.Sum256(b)
		}
		p = parent
	}
}

// tree is what Tree returns.
type tree struct {
	nodes   []api.Node
	slots   []int
	problem loads.Problem
	err     api.Errno
}

// result is what all functions return for a volume.
type result struct {
	root    api.Node
	rootErr api.Errno
	tree    tree
	blocks  []api.Block
	at      int
	err     api.Errno
	survey  []loads.Problem
	lost    []int
}

// refused returns the result for an argument that is not valid.
func refused() result {
	return result{rootErr: api.ErrArg, tree: tree{err: api.ErrArg}, err: api.ErrArg}
}

// surveyed returns the result with the problems of all blocks, and blocks that are returned if there is none.
func (r result) surveyed(l []loads.Problem, blocks []api.Block) result {
	r.survey, r.blocks = l, blocks
	for block, p := range l {
		if p != (loads.Problem{}) {
			r.lost = append(r.lost, block)
		}
	}
	if len(r.lost) > 0 {
		r.blocks, r.at, r.err = nil, r.lost[0], api.ErrIntegrity
	}
	return r
}

// stored returns the result for a volume as it was stored, but for sectors with faults.
func (v volume) stored(faults map[int]loads.Fault) result {
	r := result{root: v.at(rootOf(v.n)), tree: tree{v.nodes, v.slots, loads.Problem{}, api.OK}}
	if faults[v.sectorOf(rootOf(v.n))] > 0 {
		r.root, r.rootErr = api.Node{}, api.ErrIntegrity
	}
	for _, p := range downwards(v.n) {
		if f := faults[v.sectorOf(p)]; f > 0 && v.uses(p) {
			r.tree = tree{problem: loads.Problem{Sector: v.sectorOf(p), Fault: f}, err: api.ErrIntegrity}
			break
		}
	}
	survey := make([]loads.Problem, v.n)
	for block := range survey {
		for _, sector := range slices.Backward(v.reads(block)) {
			if f := faults[sector]; f > 0 {
				survey[block] = loads.Problem{Sector: sector, Fault: f}
			}
		}
	}
	return r.surveyed(survey, v.blocks)
}

// want returns the result for a volume whatever was done to it, from what the layer below accepts.
func (v volume) want() result {
	var r result
	r.root, _, r.rootErr = loads.Root(v.n, v.disk, v.cell)
	r.tree = v.wantTree()
	survey, blocks := make([]loads.Problem, v.n), make([]api.Block, v.n)
	for block := range v.n {
		blocks[block], survey[block], _ = loads.Block(v.n, v.disk, v.cell, v.keys, block)
	}
	return r.surveyed(survey, blocks)
}

func (v volume) wantTree() tree {
	r := tree{nodes: make([]api.Node, len(upwards(v.n))), slots: make([]int, len(upwards(v.n)))}
	for _, p := range downwards(v.n) {
		x, slot, problem, e := v.accepted(p, r.nodes)
		if e != api.OK {
			return tree{problem: problem, err: e}
		}
		r.nodes[numberOf(v.n, p)], r.slots[numberOf(v.n, p)] = x, slot
	}
	if !isTree(v.n, r.nodes) {
		return tree{err: api.ErrIntegrity}
	}
	return r
}

// accepted returns what stands at a place, and its slot, where the places above have nodes already.
func (v volume) accepted(p shapes.Place, l []api.Node) (api.Node, int, loads.Problem, api.Errno) {
	parent, which, e := shapes.Parent(v.n, p)
	if e == api.ErrNone {
		x, problem, e := loads.Root(v.n, v.disk, v.cell)
		return x, int(v.cell.Epoch & 1), problem, e
	}
	above := l[numberOf(v.n, parent)]
	if above.Entries[which] == (api.Entry{}) {
		return emptyNode(p), 1, loads.Problem{}, api.OK
	}
	x, problem, e := loads.Child(v.n, v.disk, above, which)
	return x, int(above.Entries[which].State) - 1, problem, e
}

// isTree tells whether accepted nodes, with empty ones where no entry leads, are those of a valid tree: each entry leads to something that was written.
func isTree(n int, l []api.Node) bool {
	written := make([]bool, len(l))
	for number, x := range l {
		for which := range 4 {
			switch {
			case x.Level == 0:
				written[number] = written[number] || x.Records[which].State > 0
			case x.Entries[which].State > 0:
				if !written[numberOf(n, place(int(x.Level)-1, 4*int(x.Index)+which))] {
					return false
				}
				written[number] = true
			}
		}
	}
	return true
}
