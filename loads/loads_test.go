package loads_test

import (
	"encoding/hex"
	"math"
	"slices"
	"strconv"
	"strings"
	"testing"

	"caisson/api"
	"caisson/disks"
	"caisson/loads"
	"caisson/merkles"
	"caisson/shapes"
)

// The numbers of blocks that the issue names, and more: groups and nodes of each number of parts, and each height.
var allNumbers = []int{1, 2, 3, 4, 5, 6, 7, 8, 9, 13, 16, 17, 20, 21, 33, 64, 65, 256, 257, 1024, 1025, 4096}

var smallNumbers = []int{1, 2, 3, 4, 5, 6, 9, 16, 17, 21, 33}

// states are the ways in which the tests fill volumes: the State of the record of each block.
func states(n int) []func(int) uint8 {
	return []func(int) uint8{
		never,
		func(int) uint8 { return 1 },
		func(int) uint8 { return 2 },
		both,
		func(block int) uint8 { return uint8(block % 3) },
		func(block int) uint8 { return only(block == 0, 1) },
		func(block int) uint8 { return only(block == n-1, 2) },
		func(block int) uint8 { return only(block == n/2, 2) },
		func(block int) uint8 { return only(block/4%2 == 1, both(block)) },
		func(block int) uint8 { return only(block >= n/2, both(block)) },
		func(block int) uint8 { return only(block%4 == 0, both(block)) },
	}
}

func never(int) uint8 { return 0 }

// both returns the States of written records in an order without a visible rule.
func both(block int) uint8 { return uint8(1 + block*block/3%2) }

func only(holds bool, state uint8) uint8 {
	if holds {
		return state
	}
	return 0
}

func zeros(int) int       { return 0 }
func ones(int) int        { return 1 }
func alternate(i int) int { return i % 2 }
func thirds(i int) int    { return i % 3 % 2 }

// full returns a volume of which all blocks were written, with both slots in use.
func full(t *testing.T, n int) volume {
	t.Helper()
	return volumeOf(t, source{n, both, thirds, 6})
}

func emptyNode(level, index int) api.Node {
	return api.Node{Level: uint8(level), Index: uint32(index)}
}

func name(parts ...int) string {
	text := ""
	for _, x := range parts {
		text += strconv.Itoa(x) + " "
	}
	return text
}

// The examples of the chapter.
func TestExamples(t *testing.T) {
	v := volumeOf(t, source{1, never, zeros, 0})
	if b := v.sectors[2]; len(v.sectors) != 1 || !slices.Equal(b, make([]byte, 185)) {
		t.Fatalf("the fresh volume has the sectors %v", v.sectors)
	}
	v.checkRoot(t, good(api.Node{}))
	v.checkPath(t, 0, good([]api.Node{{}}))
	v.checkBlock(t, 0, good(api.Block{}))
	v.without(t, 2).checkRoot(t, refused[api.Node](2, loads.Absent))
	v.with(t, 2, make([]byte, 184)).checkRoot(t, refused[api.Node](2, loads.Malformed))
	v.with(t, 2, append(make([]byte, 184), 1)).checkRoot(t, refused[api.Node](2, loads.Malformed))
	b := make([]byte, 185)
	b[4] = 1
	v.with(t, 2, b).checkRoot(t, refused[api.Node](2, loads.Misplaced))
	v.without(t, 2).checkData(t, 0, api.Record{State: 2}, refused[api.Block](1, loads.Absent))
	v.checkChild(t, api.Node{}, 0, bad[api.Node](api.ErrNone))
}

// The faults have the numbers of the chapter.
func TestFaults(t *testing.T) {
	for i, f := range []loads.Fault{loads.Absent, loads.Malformed, loads.Misplaced, loads.Altered, loads.Wide, loads.Forged} {
		if int(f) != i+1 {
			t.Errorf("fault %d has the number %d", i+1, f)
		}
	}
}

func unhex(t *testing.T, text string) []byte {
	t.Helper()
	b, err := hex.DecodeString(text)
	if err != nil {
		t.Fatalf("%q: %v", text, err)
	}
	return b
}

// knownVolume returns a volume of five blocks that another program (Python's hashlib, hmac and cryptography) made: the blocks 0, 2 and 4 were written.
func knownVolume(t *testing.T) volume {
	t.Helper()
	padded := func(size int, parts ...string) []byte {
		b := unhex(t, strings.Join(parts, ""))
		return append(b, make([]byte, size-len(b))...)
	}
	v := volume{n: 5, sectors: map[int][]byte{
		0: unhex(t, "7088d3e976e5db5128d0ce86b9971fdb958800a7c82d3d41b082520b429d9b9b"),
		5: unhex(t, "444c5c639d7507378446487bf9c6f5433d436fc9cc5d7f359cf38575f1f48c9a"),
		9: unhex(t, "3799f4ede7c79edb679e518393657ae6eaa35d6a06e3111cabecaf8a8ec6ae14"),
		11: padded(185, "0000000000",
			"0100000000"+"00000000000003e8"+"55502671d58d56dabd4b16534dc9c507d9d273786679e977142400f49caec19b", strings.Repeat("00", 45),
			"0200000000"+"00000000000003ea"+"9fa1e997f23ac5d1f958b605495c7a62c044b6b51fe5033b284155d8b086b986"),
		12: padded(185, "0000000001",
			"0200000000"+"00000000000003ec"+"b9565a705306fdaef3b809d269dd63e1d0f868712307f288ed93de49add1a0e4"),
		15: padded(137, "0100000000",
			"02"+"672a1f20ade1c34ad10685a707d87e955867c058ea2c6829fafefc13a673735c",
			"01"+"3c3d3476c4b5190a60bee48f8555f7c873eddab061350d21e1c4c74aa0690077"),
	}}
	v.disk = diskOf(t, 16, v.sectors)
	v.cell = api.Cell{Root: api.Digest(unhex(t, "67e595f61c2d39b12c59ec398bd75139310b21026af7ab53600b8595e4be7053")), Epoch: 3, Mark: 1005}
	v.keys.Enc = [16]byte(unhex(t, "b65859ffd188d087aafc269096108a75"))
	v.keys.Mac = api.Key(unhex(t, "3c1fa0c27180336a1fc58f29a8f975f12999778f1e4210b8f3015b2e64ec6f65"))
	return v
}

// P17.1 to P17.3: the volume that another program made.
func TestKnownVolume(t *testing.T) {
	v := knownVolume(t)
	written := func(state uint8, counter uint64, tag string) api.Record {
		return api.Record{State: state, Nonce: api.Nonce{Counter: counter}, Tag: api.Digest(unhex(t, tag))}
	}
	l := []api.Record{
		written(1, 1000, "55502671d58d56dabd4b16534dc9c507d9d273786679e977142400f49caec19b"), {},
		written(2, 1002, "9fa1e997f23ac5d1f958b605495c7a62c044b6b51fe5033b284155d8b086b986"), {},
		written(2, 1004, "b9565a705306fdaef3b809d269dd63e1d0f868712307f288ed93de49add1a0e4"),
	}
	groups := []api.Node{{Records: [4]api.Record(l[:4])}, {Index: 1, Records: [4]api.Record{l[4]}}}
	root := api.Node{Level: 1, Entries: [4]api.Entry{
		{State: 2, Digest: api.Digest(unhex(t, "672a1f20ade1c34ad10685a707d87e955867c058ea2c6829fafefc13a673735c"))},
		{State: 1, Digest: api.Digest(unhex(t, "3c3d3476c4b5190a60bee48f8555f7c873eddab061350d21e1c4c74aa0690077"))},
	}}
	v.checkRoot(t, good(root))
	v.checkChild(t, root, 0, good(groups[0]))
	v.checkChild(t, root, 1, good(groups[1]))
	v.checkChild(t, root, 2, bad[api.Node](api.ErrNone))
	for block, r := range l {
		var plain api.Block
		for i := range plain {
			if r.State > 0 {
				plain[i] = byte(16*block + i)
			}
		}
		v.checkPath(t, block, good([]api.Node{root, groups[block/4]}))
		v.checkRecord(t, block, good(r))
		v.checkData(t, block, r, good(plain))
		v.checkBlock(t, block, good(plain))
	}
	v.checkDisk(t)
}

// P17.1 to P17.3: fresh volumes have an empty root, and nothing but zero blocks.
func TestFresh(t *testing.T) {
	for _, n := range append([]int{10, 11, 12, 15, 63, 66, 255, 1023, 4095}, allNumbers...) {
		v := volumeOf(t, source{n, never, ones, 0})
		height := heightOf(n)
		sector := 2 * n
		for level := range height {
			sector += 2 * countOf(n, level)
		}
		if b := v.sectors[sector]; len(v.sectors) != 1 || len(b) == 0 || b[0] != byte(height) {
			t.Fatalf("%d blocks: the fresh volume has the sectors %v", n, v.sectors)
		}
		root := emptyNode(height, 0)
		v.checkRoot(t, good(root))
		for which := range 4 {
			v.checkChild(t, root, which, bad[api.Node](api.ErrNone))
		}
		for block := range n {
			if n < 100 || block%97 == 0 || block == n-1 {
				v.checkPath(t, block, good([]api.Node{root}))
				v.checkRecord(t, block, good(api.Record{}))
				v.checkBlock(t, block, good(api.Block{}))
			}
		}
		v.without(t, sector).checkRoot(t, refused[api.Node](sector, loads.Absent))
	}
}

// checkStored checks that everything that was stored is read.
func (v volume) checkStored(t *testing.T, block int) {
	t.Helper()
	var l []api.Node
	for i, p := range pathOf(v.n, block) {
		if x := v.nodes[numberOf(v.n, p)]; i == 0 || !isEmpty(x) {
			l = append(l, x)
		}
	}
	var plain api.Block
	r := v.records[block]
	if r.State > 0 {
		plain = plainOf(block)
	}
	v.checkRoot(t, good(l[0]))
	v.checkPath(t, block, good(l))
	v.checkRecord(t, block, good(r))
	v.checkData(t, block, r, good(plain))
	v.checkBlock(t, block, good(plain))
	for i, x := range l[1:] {
		v.checkChild(t, l[i], turn(int(l[i].Level), block), good(x))
	}
}

// P17.1 to P17.3: volumes of all kinds, with both slots in use.
func TestVolumes(t *testing.T) {
	for _, n := range smallNumbers {
		for _, state := range states(n) {
			for epoch, slot := range []func(int) int{zeros, ones, alternate, thirds} {
				v := volumeOf(t, source{n, state, slot, uint64(epoch)})
				for block := range n {
					v.checkStored(t, block)
				}
				v.judgeAll(t)
			}
		}
	}
}

// P17.1 to P17.3: some blocks of great volumes.
func TestGreatVolumes(t *testing.T) {
	for _, n := range []int{64, 65, 256, 257, 1024, 1025, 4095, 4096} {
		for i, state := range states(n) {
			v := volumeOf(t, source{n, state, thirds, uint64(i)})
			for _, block := range []int{0, 1, 5, n / 3, n / 2, n - 2, n - 1} {
				v.checkStored(t, block)
				v.judge(t, block)
			}
		}
	}
}

// P17.2: in the volume of 4096 blocks of which one was written, how many nodes the paths have, written out.
func TestPathLengths(t *testing.T) {
	for _, x := range []struct{ written, block, nodes int }{
		{0, 0, 6}, {0, 3, 6}, {0, 4, 5}, {0, 15, 5}, {0, 16, 4}, {0, 63, 4}, {0, 64, 3}, {0, 255, 3}, {0, 256, 2}, {0, 1023, 2}, {0, 1024, 1}, {0, 4095, 1},
		{4095, 4095, 6}, {4095, 4092, 6}, {4095, 4091, 5}, {4095, 4080, 5}, {4095, 4079, 4}, {4095, 4032, 4}, {4095, 4031, 3}, {4095, 3840, 3}, {4095, 3839, 2}, {4095, 3072, 2}, {4095, 3071, 1}, {4095, 0, 1},
	} {
		v := volumeOf(t, source{4096, func(block int) uint8 { return only(block == x.written, 2) }, ones, 1})
		l, p, e := loads.Path(4096, v.disk, v.cell, x.block)
		if len(l) != x.nodes || p != (loads.Problem{}) || e != api.OK {
			t.Fatalf("block %d was written: the path of block %d has %d nodes, %v, %d, want %d", x.written, x.block, len(l), p, e, x.nodes)
		}
		v.checkStored(t, x.block)
	}
}

// P17.1, P17.2: the root is read from the slot that the epoch says, and the mark says nothing.
func TestEpochs(t *testing.T) {
	epochs := []uint64{0, 1, 2, 3, 4, 255, 256, 1<<32 - 1, 1 << 32, 1<<63 - 1, 1 << 63, math.MaxUint64 - 1, math.MaxUint64}
	for _, n := range []int{1, 5, 65} {
		even := volumeOf(t, source{n, both, thirds, 0})
		odd := volumeOf(t, source{n, func(block int) uint8 { return 3 - both(block) }, alternate, 1})
		v := even.with(t, rootSector(n, 1), odd.sectors[rootSector(n, 1)])
		for _, epoch := range epochs {
			slot := int(epoch % 2)
			for _, mark := range []uint64{0, 1, 1 << 60, math.MaxUint64} {
				v.cell = api.Cell{Root: [2]volume{even, odd}[slot].cell.Root, Epoch: epoch, Mark: mark}
				v.checkRoot(t, good([2]volume{even, odd}[slot].nodes[len(even.nodes)-1]))
				v.judge(t, n-1)
				v.cell.Root = [2]volume{odd, even}[slot].cell.Root
				v.checkRoot(t, refused[api.Node](rootSector(n, slot), loads.Altered))
				v.checkPath(t, 0, refused[[]api.Node](rootSector(n, slot), loads.Altered))
				v.checkRecord(t, 0, refused[api.Record](rootSector(n, slot), loads.Altered))
				v.checkBlock(t, 0, refused[api.Block](rootSector(n, slot), loads.Altered))
			}
		}
	}
}

// P17.1: each slot that an entry may say is the one that is read, whatever is in the other one.
func TestEntrySlots(t *testing.T) {
	for _, n := range []int{5, 16, 17, 21} {
		for _, slot := range []int{0, 1} {
			v := volumeOf(t, source{n, both, func(int) int { return slot }, 2})
			for number, p := range places(n)[:len(v.nodes)-1] {
				parent := v.nodes[numberOf(n, place(p.Level+1, p.Index/4))]
				read, other := nodeSector(n, p, slot), nodeSector(n, p, 1-slot)
				v.checkChild(t, parent, p.Index%4, good(v.nodes[number]))
				w := v.with(t, other, nodeBytes(v.nodes[number]))
				w.checkChild(t, parent, p.Index%4, good(v.nodes[number]))
				w.without(t, read).checkChild(t, parent, p.Index%4, refused[api.Node](read, loads.Absent))
				parent.Entries[p.Index%4].State = uint8(2 - slot)
				w.checkChild(t, parent, p.Index%4, good(v.nodes[number]))
				v.checkChild(t, parent, p.Index%4, refused[api.Node](other, loads.Absent))
			}
		}
	}
}

// P17.4: the nodes of proofs, and the records of the tree, from a disk that has its nodes in their slots.
func TestProofs(t *testing.T) {
	for _, n := range append([]int{15, 63}, allNumbers...) {
		for i, state := range states(n) {
			if n > 100 && i > 4 {
				continue
			}
			v := volumeOf(t, source{n, state, thirds, uint64(i % 2)})
			tree, e := merkles.Build(n, v.records, v.slots)
			if e != api.OK || !slices.Equal(tree.Nodes, v.nodes) {
				t.Fatalf("Build(%d, ..): error %d, or another tree than that of the model", n, e)
			}
			for number, p := range places(n) {
				// Nodes of empty subtrees are stored too: no entry leads to them.
				v.sectors[nodeSector(n, p, v.slots[number])] = nodeBytes(tree.Nodes[number])
			}
			v.disk = diskOf(t, sizeOf(n), v.sectors)
			v.cell.Root, _ = merkles.Root(tree)
			for block := range n {
				if n > 100 && block%(n/20) > 0 && block != n-1 {
					continue
				}
				proof, e := merkles.Prove(tree, block)
				if e != api.OK {
					t.Fatalf("Prove(.., %d): error %d", block, e)
				}
				v.checkPath(t, block, good(proof.Nodes))
				v.checkRecord(t, block, good(v.records[block]))
				if r, e := merkles.Verify(n, v.cell.Root, proof); r != v.records[block] || e != api.OK {
					t.Fatalf("Verify(%d, ..) = %v, %d", n, r, e)
				}
			}
		}
	}
}

// checkArg checks that all functions return ErrArg for a number of blocks, a disk and a block, and nothing else, whatever else they are given.
func checkArg(t *testing.T, n int, d disks.Disk, c api.Cell, block int) {
	t.Helper()
	checkArgOfBlocks(t, n, d, c, block)
	compare(t, "the root", of(loads.Root(n, d, c)), bad[api.Node](api.ErrArg))
	for _, parent := range []api.Node{{}, {Records: [4]api.Record{{State: 1}}}, {Level: 1}, {Level: 1, Entries: [4]api.Entry{{State: 1}}}, {Level: 9}} {
		for _, which := range []int{0, 1, 3, -1, 4} {
			compare(t, "the child", of(loads.Child(n, d, parent, which)), bad[api.Node](api.ErrArg))
		}
	}
}

// checkArgOfBlocks does so for the functions of blocks.
func checkArgOfBlocks(t *testing.T, n int, d disks.Disk, c api.Cell, block int) {
	t.Helper()
	what := name(n, d.Size(), block) + "(blocks, sectors, block): "
	if l, p, e := loads.Path(n, d, c, block); len(l) != 0 || p != (loads.Problem{}) || e != api.ErrArg {
		t.Fatalf("%s the path is %v, %v, %d", what, l, p, e)
	}
	compare(t, what+"the record", of(loads.Record(n, d, c, block)), bad[api.Record](api.ErrArg))
	compare(t, what+"the block", of(loads.Block(n, d, c, keysOf(1), block)), bad[api.Block](api.ErrArg))
	for _, r := range []api.Record{{}, {State: 1}, {State: 2}, {State: 3}} {
		compare(t, what+"the data", of(loads.Data(n, d, keysOf(1), block, r)), bad[api.Block](api.ErrArg))
	}
}

// Numbers of blocks that no volume has: ErrArg.
func TestBadNumbers(t *testing.T) {
	for _, size := range []int{1, 4, 5, 16, 4096} {
		v := full(t, size)
		for _, n := range badNumbers {
			for _, block := range []int{0, -1, 1, n - 1, n} {
				checkArg(t, n, v.disk, v.cell, block)
			}
		}
	}
	for _, n := range append(badNumbers, allNumbers...) {
		checkArg(t, n, disks.Disk{}, api.Cell{}, 0)
	}
}

// Disks with too few or too many sectors: ErrArg, whatever is on them.
func TestBadDisks(t *testing.T) {
	for _, n := range allNumbers {
		for _, v := range []volume{full(t, n), volumeOf(t, source{n, never, zeros, 0})} {
			sizes := []int{1, 2, 16, 10922, sizeOf(n) - 2, sizeOf(n) - 1, sizeOf(n) + 1, sizeOf(n) + 2, 2 * n}
			if n > 1 {
				sizes = append(sizes, sizeOf(n-1))
			}
			if n < 4096 {
				sizes = append(sizes, sizeOf(n+1))
			}
			for _, size := range sizes {
				if size == sizeOf(n) || size > disks.MaxSectors {
					continue
				}
				sectors := map[int][]byte{}
				for sector, b := range v.sectors {
					if sector < size {
						sectors[sector] = b
					}
				}
				d := diskOf(t, size, sectors)
				for _, block := range []int{0, n - 1, -1, n} {
					checkArg(t, n, d, v.cell, block)
				}
				last := v.nodes[len(v.nodes)-1]
				for which := range 4 {
					compare(t, "the child", of(loads.Child(n, d, last, which)), bad[api.Node](api.ErrArg))
				}
				for block := range min(n, 8) {
					compare(t, "the data", of(loads.Data(n, d, v.keys, block, v.records[block])), bad[api.Block](api.ErrArg))
				}
			}
		}
	}
}

// Blocks that do not exist: ErrArg, also if nothing on the disk is accepted.
func TestBadBlocks(t *testing.T) {
	for _, n := range allNumbers {
		v := full(t, n)
		for _, block := range badBlocks(n) {
			checkArgOfBlocks(t, n, v.disk, v.cell, block)
			checkArgOfBlocks(t, n, v.without(t, rootSector(n, 0)).disk, v.cell, block)
			checkArgOfBlocks(t, n, v.disk, api.Cell{}, block)
		}
		for _, block := range []int{0, n - 1} {
			v.checkStored(t, block)
			v.under(api.Digest{}).judge(t, block)
		}
	}
}

// unfit returns nodes that do not fit the shape of a number of blocks.
func unfit(v volume) []api.Node {
	height := heightOf(v.n)
	l := []api.Node{
		emptyNode(height+1, 0), emptyNode(6, 0), emptyNode(255, 0), emptyNode(height, 1), emptyNode(height, 1<<31), emptyNode(height, 1<<32-1), emptyNode(0, countOf(v.n, 0)),
		{Records: [4]api.Record{{State: 3}}}, {Records: [4]api.Record{{Tag: api.Digest{1}}}}, {Entries: [4]api.Entry{{State: 1}}}, {Entries: [4]api.Entry{3: {Digest: api.Digest{1}}}},
	}
	for _, x := range v.nodes {
		if x.Level > 0 {
			y := x
			y.Records[3].State = 1
			l = append(l, y)
			y = x
			y.Entries[0].State = 3
			l = append(l, y)
			y = x
			y.Entries[1] = api.Entry{Digest: api.Digest{31: 1}}
			l = append(l, y)
		}
		for which := partsOf(v.n, place(int(x.Level), int(x.Index))); which < 4; which++ {
			y := x
			if y.Level > 0 {
				y.Entries[which].State = 1
			} else {
				y.Records[which].State = 1
			}
			l = append(l, y)
		}
	}
	return l
}

// P17.1: ErrArg for nodes that do not fit, and for numbers of no part, before ErrNone.
func TestChildArguments(t *testing.T) {
	parts := []int{-1, 4, 5, 8, -4, 1 << 16, 1 << 32, 1<<32 + 1, -1 << 32, math.MinInt, math.MinInt + 1, math.MaxInt}
	for _, n := range append([]int{15}, smallNumbers...) {
		v := full(t, n)
		for _, x := range unfit(v) {
			for _, which := range append([]int{0, 1, 2, 3}, parts...) {
				v.checkChild(t, x, which, bad[api.Node](api.ErrArg))
			}
		}
		for _, x := range v.nodes {
			for _, which := range parts {
				v.checkChild(t, x, which, bad[api.Node](api.ErrArg))
				v.checkChild(t, emptyNode(int(x.Level), int(x.Index)), which, bad[api.Node](api.ErrArg))
			}
		}
	}
}

// P17.1: ErrNone for groups, and for parts whose entry is zero, whatever is on the disk; and the children that there are.
func TestChildNone(t *testing.T) {
	for _, n := range smallNumbers {
		v := full(t, n)
		for number, p := range places(n) {
			x := v.nodes[number]
			for which := range 4 {
				v.checkChild(t, emptyNode(p.Level, p.Index), which, bad[api.Node](api.ErrNone))
				if p.Level == 0 || which >= partsOf(n, p) {
					v.checkChild(t, x, which, bad[api.Node](api.ErrNone))
					continue
				}
				v.checkChild(t, x, which, good(v.nodes[numberOf(n, place(p.Level-1, 4*p.Index+which))]))
				// One part alone is zero.
				y := x
				y.Entries[which] = api.Entry{}
				for i := range partsOf(n, p) {
					if i == which {
						v.checkChild(t, y, i, bad[api.Node](api.ErrNone))
					} else {
						v.checkChild(t, y, i, good(v.nodes[numberOf(n, place(p.Level-1, 4*p.Index+i))]))
					}
				}
			}
		}
		v.checkDisk(t)
	}
}

// P17.1: the parent of a child need not be on the disk itself.
func TestChildOfOthers(t *testing.T) {
	v := full(t, 21)
	group := api.Node{Index: 5, Records: [4]api.Record{{State: 2, Tag: api.Digest{7}}}}
	parent := api.Node{Level: 1, Index: 1, Entries: [4]api.Entry{{State: 1, Digest: api.Digest{5}}, {State: 2, Digest: digestOf(group)}}}
	sector := nodeSector(21, place(0, 5), 1)
	v.with(t, sector, nodeBytes(group)).checkChild(t, parent, 1, good(group))
	v.with(t, sector, nodeBytes(group)).checkChild(t, parent, 0, v.wantChild(parent, 0))
	v.without(t, sector).checkChild(t, parent, 1, refused[api.Node](sector, loads.Absent))
	// An entry that is not zero may lead to an empty node.
	parent.Entries[1].Digest = digestOf(emptyNode(0, 5))
	v.with(t, sector, nodeBytes(emptyNode(0, 5))).checkChild(t, parent, 1, good(emptyNode(0, 5)))
}

// The sectors of the model are those of the layer shapes.
func TestModel(t *testing.T) {
	for _, n := range allNumbers {
		if size, e := shapes.Sectors(n); size != sizeOf(n) || e != api.OK {
			t.Fatalf("%d blocks have %d sectors, %d, in the model %d", n, size, e, sizeOf(n))
		}
		for _, p := range places(n) {
			if sector, e := shapes.Node(n, p.Level, p.Index, 1); sector != nodeSector(n, p, 1) || e != api.OK {
				t.Fatalf("%d blocks: the node at %v has the sector %d, %d, in the model %d", n, p, sector, e, nodeSector(n, p, 1))
			}
		}
	}
}
