package recovers_test

import (
	"crypto/sha256"
	"encoding/binary"
	"encoding/hex"
	"maps"
	"math"
	"slices"
	"testing"

	"caisson/api"
	"caisson/disks"
	"caisson/loads"
	"caisson/merkles"
	"caisson/nodes"
	"caisson/recovers"
	"caisson/shapes"
	"caisson/updates"
)

func never(int) uint8 { return 0 }

// both returns the States of written records in an order without a visible rule.
func both(block int) uint8 { return uint8(1 + block*block/3%2) }

func only(holds bool, state uint8) uint8 {
	if holds {
		return state
	}
	return 0
}

// states are the ways in which the tests fill volumes: the State of the record of each block.
func states(n int) []func(int) uint8 {
	return []func(int) uint8{
		never,
		both,
		func(block int) uint8 { return uint8(block % 3) },
		func(block int) uint8 { return only(block == 0, 1) },
		func(block int) uint8 { return only(block == n-1, 2) },
		func(block int) uint8 { return only(block/4 == n/8, both(block)) },
		func(block int) uint8 { return only(block/4%2 == 1, both(block)) },
		func(block int) uint8 { return only(block >= n/2, both(block)) },
		func(block int) uint8 { return only(block%16 == 1, both(block)) },
	}
}

func zeros(int) int       { return 0 }
func ones(int) int        { return 1 }
func alternate(i int) int { return i % 2 }
func thirds(i int) int    { return i % 3 % 2 }

// full returns a volume of which all blocks were written, with both slots in use.
func full(t *testing.T, n int) volume {
	t.Helper()
	return volumeOf(t, source{n: n, state: both, slot: thirds, epoch: 6})
}

// The examples of the chapter.
func TestExamples(t *testing.T) {
	d, c, e := recovers.Fresh(5)
	if e != api.OK {
		t.Fatal(e)
	}
	content := append([]byte{1}, make([]byte, 136)...)
	if b, e := d.Read(14); e != api.OK || !slices.Equal(b, content) || !slices.Equal(d.Present(), []int{14}) {
		t.Fatalf("the sectors %v are there, and 14 is %x, %d", d.Present(), b, e)
	}
	v := volume{n: 5, sectors: map[int][]byte{14: content}, disk: d, cell: c, keys: keysOf(3, 4)}
	l := []api.Node{{}, {Index: 1}, {Level: 1}}
	v.check(t, result{root: api.Node{Level: 1}, tree: tree{nodes: l, slots: []int{1, 1, 0}}, blocks: make([]api.Block, 5), survey: make([]loads.Problem, 5)})
	lost := []int{0, 1, 2, 3, 4}
	w := v
	w.cell.Epoch = 1
	problem := loads.Problem{Sector: 15, Fault: loads.Absent}
	w.check(t, result{rootErr: api.ErrIntegrity, tree: tree{problem: problem, err: api.ErrIntegrity}, err: api.ErrIntegrity, survey: slices.Repeat([]loads.Problem{problem}, 5), lost: lost})
	problem.Sector = 14
	v.with(t, 14, nil).check(t, result{rootErr: api.ErrIntegrity, tree: tree{problem: problem, err: api.ErrIntegrity}, err: api.ErrIntegrity, survey: slices.Repeat([]loads.Problem{problem}, 5), lost: lost})
}

// P20.1, P20.6: fresh volumes of the numbers of blocks that the issue names, and others, written out: how many sectors there are, which one is there, and what another program (Python's hashlib) computed as the digest of its bytes.
func TestFresh(t *testing.T) {
	for _, x := range []struct {
		n, size, sector int
		root            string
	}{
		{1, 4, 2, "babd6f664158d665504571b169a1e81ef75470cdca4fdd7d95be6cdb7826136d"},
		{4, 10, 8, "babd6f664158d665504571b169a1e81ef75470cdca4fdd7d95be6cdb7826136d"},
		{5, 16, 14, "49ececc521296fd01030020f4e92c6614e386f50caf9938917f7dea046c6277e"},
		{16, 42, 40, "49ececc521296fd01030020f4e92c6614e386f50caf9938917f7dea046c6277e"},
		{17, 50, 48, "cdc5acd7f9c657dde09ca8ccb546eb161b7ac07cc9c5b4b76a2f0bbc04f321ff"},
		{64, 170, 168, "cdc5acd7f9c657dde09ca8ccb546eb161b7ac07cc9c5b4b76a2f0bbc04f321ff"},
		{65, 180, 178, "6e4289a917ae50e6f013cdc27eec4a37bc0a0248f71c2764bd6093b0e468592a"},
		{256, 682, 680, "6e4289a917ae50e6f013cdc27eec4a37bc0a0248f71c2764bd6093b0e468592a"},
		{257, 694, 692, "1543a187f2a12f6f880da0d4f511212e8eeafde08d99993615f668fae98d1406"},
		{1024, 2730, 2728, "1543a187f2a12f6f880da0d4f511212e8eeafde08d99993615f668fae98d1406"},
		{1025, 2744, 2742, "3662e7fa1bf4af53787ffd7b1c45218d5e0d77ac8b132228aadefb61d0c98031"},
		{4096, 10922, 10920, "3662e7fa1bf4af53787ffd7b1c45218d5e0d77ac8b132228aadefb61d0c98031"},
	} {
		d, c, e := recovers.Fresh(x.n)
		if e != api.OK || d.Size() != x.size || !slices.Equal(d.Present(), []int{x.sector}) || c.Epoch != 0 || c.Mark != 0 || hex.EncodeToString(c.Root[:]) != x.root {
			t.Fatalf("Fresh(%d): %d sectors, of which %v are there, %v, %d", x.n, d.Size(), d.Present(), c, e)
		}
		if b, _ := d.Read(x.sector); sha256.Sum256(b) != c.Root {
			t.Fatalf("Fresh(%d): sector %d is %x", x.n, x.sector, b)
		}
		v := checkFresh(t, x.n)
		v.check(t, v.stored(nil))
		v = v.with(t, x.sector, nil)
		v.check(t, v.stored(map[int]loads.Fault{x.sector: loads.Absent}))
	}
}

// P20.1, P20.6: all numbers of blocks.
func TestFreshOfAllNumbers(t *testing.T) {
	t.Parallel()
	for n := 1; n <= api.MaxBlocks; n++ {
		v := checkFresh(t, n)
		if root, e := recovers.Open(n, v.disk, v.cell); root != emptyNode(rootOf(n)) || e != api.OK {
			t.Fatalf("the fresh volume of %d blocks opens with %v, %d", n, root, e)
		}
		if n < 40 {
			v.check(t, v.stored(nil))
		}
	}
}

// Numbers of blocks that no volume has: ErrArg, whatever the disk is.
func TestBadNumbers(t *testing.T) {
	l := []disks.Disk{{}, full(t, 5).disk}
	for _, size := range []int{1, 2, 4, 16, 42, 10920, disks.MaxSectors} {
		l = append(l, diskOf(t, size, nil))
	}
	for _, n := range badNumbers {
		if d, c, e := recovers.Fresh(n); d.Size() != 0 || c != (api.Cell{}) || e != api.ErrArg {
			t.Fatalf("Fresh(%d) has %d sectors, %v, %d", n, d.Size(), c, e)
		}
		for _, d := range l {
			v := volume{n: n, disk: d, cell: full(t, 5).cell, keys: keysOf(1, 2)}
			v.sectors = contentsOf(t, d)
			v.check(t, refused())
		}
	}
}

func contentsOf(t *testing.T, d disks.Disk) map[int][]byte {
	t.Helper()
	m := map[int][]byte{}
	for _, sector := range d.Present() {
		b, e := d.Read(sector)
		if e != api.OK {
			t.Fatalf("reading the sector %d: error %d", sector, e)
		}
		m[sector] = b
	}
	return m
}

// Disks with too few or too many sectors: ErrArg, whatever is on them.
func TestOtherDisks(t *testing.T) {
	for _, n := range append([]int{64, 65, 4096}, smallNumbers...) {
		v := full(t, n)
		for _, size := range []int{1, sizeOf(n) - 2, sizeOf(n) - 1, sizeOf(n) + 1, sizeOf(n) + 2, 2 * sizeOf(n), disks.MaxSectors} {
			if size < 1 || size > disks.MaxSectors || size == sizeOf(n) {
				continue
			}
			w := v
			w.sectors = map[int][]byte{}
			for sector, b := range v.sectors {
				if sector < size {
					w.sectors[sector] = b
				}
			}
			w.disk = diskOf(t, size, w.sectors)
			w.check(t, refused())
		}
		w := volume{n: n, cell: v.cell, keys: v.keys}
		w.check(t, refused())
	}
	// Other numbers of blocks than those of the volume.
	v := full(t, 17)
	for n := 1; n < 60; n++ {
		w := v
		w.n = n
		if n != 17 {
			w.check(t, refused())
		}
	}
}

// P20.2 to P20.6: volumes of all kinds, with both slots in use.
func TestVolumes(t *testing.T) {
	t.Parallel()
	for _, n := range smallNumbers {
		for i, state := range states(n) {
			for j, slot := range []func(int) int{zeros, ones, alternate, thirds} {
				v := volumeOf(t, source{n: n, state: state, slot: slot, epoch: uint64(i*7 + j), filled: i%2 == j%2})
				v.check(t, v.stored(nil))
				v.check(t, v.want())
			}
		}
	}
}

// P20.2 to P20.6: great volumes.
func TestGreatVolumes(t *testing.T) {
	t.Parallel()
	for _, n := range greatNumbers {
		for i, state := range states(n) {
			if n < 1000 || i%4 == n%4 {
				v := volumeOf(t, source{n: n, state: state, slot: thirds, epoch: uint64(i), filled: i%3 == 1})
				v.check(t, v.stored(nil))
			}
		}
	}
}

// knownSource is the volume of a number of blocks that another program made too.
func knownSource(n int) source {
	return source{
		n: n,
		state: func(block int) uint8 {
			if block/4%3 == 1 || n/2 <= block && block < n/2+n/3 {
				return 0
			}
			return uint8((block*block/3 + block + n) % 3)
		},
		slot:  func(number int) int { return number * number / 5 % 2 },
		epoch: uint64(n + 2),
	}
}

// dump returns what is on a disk.
func dump(t *testing.T, d disks.Disk) []byte {
	t.Helper()
	var all []byte
	m := contentsOf(t, d)
	for _, sector := range slices.Sorted(maps.Keys(m)) {
		all = binary.BigEndian.AppendUint32(all, uint32(sector))
		all = append(binary.BigEndian.AppendUint16(all, uint16(len(m[sector]))), m[sector]...)
	}
	return all
}

// P20.3 to P20.5: volumes that another program (with Python's hashlib, hmac and cryptography) made: how many blocks were written, how many sectors are there, the root, and the digests of what is on the disk, of the nodes with the slots, and of all blocks. In those with an odd number of blocks the empty nodes are stored too.
func TestKnownVolumes(t *testing.T) {
	for _, x := range []struct {
		n, written, sectors      int
		root, disk, tree, blocks string
	}{
		{1, 1, 2, "5bfcdfbf95872f1dfb35e4f595daf1b774d2d86afa48a2988305e28a7796fc98", "0c1e400cd72cbf22fbd30ee6b00b19745583e6fda122117e9bb73374d8b9c52d", "05f10080a77413570e310c3dcdfd3d76a449569fb21ba71f8cbd3d82db5eecbc", "8c731c199b130cb096cae9129de0680c61e60606ed5c3ba72ebac58ad6af6df3"},
		{2, 1, 2, "99ecc666d39035e6e56c75e01a4faf301450c13815f9c75ebb28194f4686e3b7", "764ba2570454a05cff78d0a213c267978d13f2b80babae8ae703b49239d55841", "cdd2022479924957dbd97d777d46b5393d6af4674a50ad1f0a239598266aece4", "71b08c3e4f3c3a630fb62f5a3cb3f6cdb808ae572aac01dc712b0ac0d907c46a"},
		{4, 3, 4, "d9ecfc4f79ca35d8c629b8bd8ba6c7065b2523ffa52c90e230ae8ee17c4c0f85", "b9c8a8f352547be503b6d9c618908efc90470f3568754344cee7fec0e8fbfa60", "cbffc8e5e921acea8bdcf5530ca643418e2999d56292e720016bd206011d7cee", "bede60d2f612fb11e1dca37399dfa14f5c4175d3361072276f9510c7b6afad5b"},
		{5, 2, 5, "aadc75cfb954e68d95ff406bb17f0c5d193cc9ad881d978c6f4692629100d4a0", "707c18b6483d511621bced07d42e0258d4ddba89550e09de0579ed71e015fc4e", "b245f701537343b2466b65d5754bef708c98da09c4074340b78b2a74524f2ba1", "672059e3dce5082dc6e83bbba61bf259698ace7dd0dd7fa38f20bc4618c70ea9"},
		{16, 7, 10, "7501309a35bf0f2a0e953173c65bfad9678f9ab6dd4130e30e37a0885f3772ad", "daf473d8deadc4735e7363dfbb0340b26bcde1b7675a71b393a84c1829ebaa88", "b5896bacfacc45f8e7cc2d6c88038386c8fc3213d348ee4afe6071773cf5e17b", "ef71d7f879591c133f9183f2780e5c77ad79faa98def1701d1e10d59ac4179c9"},
		{17, 5, 13, "3037a3f23da1fcc02aad9f8b0d698b5c8423743fb3b4c32a1b6b9f1336f23422", "32791203fb006eb07debf6a8339c4fbcb5ca930fc745af71cf11559377365acb", "1addaec61f5364c05b0fdad2a82b222ca6daa4e9d609cad6a3f6aec9994b3aa4", "aa0866dba5d4b3fbb70891c2775c8d59e40bf9ef7f18b131220dfec41dd6938f"},
		{21, 2, 11, "754beb8220e1d65e19960c3c4f91ddee1618c05ea1234441f3f088aad65868b6", "0c8162671f5e7200a9cc58948775f41ce1c1ad853015748dcb492490ec3ba30c", "df555e1253e2836125898040283e90fa54f89f08b735bd2c3293c3d08a91624a", "417b164ceb4e042a7f8d18ddda051200efefa9528cdd2b6ffcfbd1821d58f32a"},
		{64, 23, 34, "e235ddad3d3857b1e7c5262beb00f9e99667bdde0f4b8a182c663e5b11c4ecfe", "51908481ab2f9e3024cdb73ee0c5c5ed1be5ef4b34e9aa930c68a03e4b198f9e", "b5d0661a67f06358275409d57e68f597797e112ed8b62820068db50c9822d61a", "73e7cfa27655d2a35e3ad71783132e71ba66471ad9a03794e630fef13b4c12c1"},
		{65, 23, 48, "d8e6e4616320c48e269182f7c98ee4285ae39a2f44ff014171cdfe263430b62b", "0d299e208909604054c6915f9fafd1243c9d1b2e46656d5335e2a3cf5f39e0ef", "b05616661375a62bf5fcf81d8b65d890532539a4a7c85368c940951d2e35dbeb", "fad744d7239e49e83bbe129ebb20f862ddb0f3bdc18002b1c38d7897cdd40fbd"},
		{256, 92, 136, "bf18f3d130ef351f7ee07b7b543533fb4f81131cd5c64b06ef0dbb3e12c641ad", "25e2dbf5eae2bb47b7afac0f7652c01a3a1f19bf6669be9a82b8f8f443434ff4", "2c4ef61b7943293a0c21f711cc31c0559bfa81b5446dbc076bf6981da94b7622", "efd705fce1eef41899f8c2f27f41b9be0babe85e49e7a099a71f6504ac5e653a"},
		{257, 91, 181, "14105939721ec28467d824d791e74c0024315d3b1bab1f27694e1f2548287e81", "dbfefd1240aa6dc7557d23c03003d84cad7bf559c7ec8c501bc3e83dab16ea1e", "490860bac7116d558abcbcefaaabd2b8b8e9efdd3dd78c626c6e32ba4b38e2ee", "ca67f250e92fab3fd5bfdaf8804fdc27849bd245fa34fd905eebfde530910e10"},
		{1024, 360, 532, "38e1374e150960168411d31a069e4624f8a3aceca7020a703f679d93e9cd5ed6", "07c3fb5bffcf9a2e71ea6a0185dff678720675ff72265a298134b6ea642c9faa", "26d14db80806082e61c4c5e94c0b1307bd63ca8bd5216b05834618ba945fd9a7", "e9cb9c56a4534e271d283c672ce0ae1108da9de02f77be0be502e2577d236c51"},
		{1025, 360, 707, "536f86622d17dc6f01b2c577c8c75e80b4be4c2142d91d959d028eca99399856", "fc72c7edcfcf319753175847a9ff3296277f4d5a0f3b706df2f1a43c595770be", "9a6db1eb4c3d798e6567addc776eba63fcd34ab5dcbf77e15e22e6f19a8b1e17", "a0b50ddb8ff08a2202237c490b27468cfa1f9f8eae21c2f480c19ccb9b7fb863"},
		{4096, 1442, 2126, "97268a6bf360fdfdd64ade87b753be87fac8665dc71fc5207682c4f8a7f086cd", "0972de4a2738fa06c74cf9fab7ade524393a0693320bc978d1f733369fef7cfc", "181e2ed049a251928adc0ec2c195ede4b8f5f9472025c7b3e9ffd24ed0461c37", "9a5aba4ccc3a35e94085addce448f359426a25e2596a8b101888e5c05d7153f9"},
	} {
		s := knownSource(x.n)
		v := volumeOf(t, s)
		if x.n%2 == 1 {
			v = v.withEmptyNodes(t, s.slot)
		}
		digest := func(b []byte) string {
			d := sha256.Sum256(b)
			return hex.EncodeToString(d[:])
		}
		written := x.n - len(slices.DeleteFunc(slices.Clone(v.blocks), func(b api.Block) bool { return b != api.Block{} }))
		if written != x.written || len(v.sectors) != x.sectors || hex.EncodeToString(v.cell.Root[:]) != x.root || digest(dump(t, v.disk)) != x.disk {
			t.Fatalf("%d blocks: not the volume of the other program", x.n)
		}
		made, slots, p, e := recovers.Tree(x.n, v.disk, v.cell)
		var all []byte
		for _, y := range made.Nodes {
			all = append(all, bytesOf(t, y)...)
		}
		for _, slot := range slots {
			all = append(all, byte(slot))
		}
		if digest(all) != x.tree || p != (loads.Problem{}) || e != api.OK {
			t.Fatalf("%d blocks: the tree is %v, %v, %v, %d", x.n, made, slots, p, e)
		}
		l, at, e := recovers.All(x.n, v.disk, v.cell, v.keys)
		all = nil
		for _, b := range l {
			all = append(all, b[:]...)
		}
		if digest(all) != x.blocks || at != 0 || e != api.OK {
			t.Fatalf("%d blocks: all blocks are %v, %d, %d", x.n, l, at, e)
		}
		v.check(t, v.stored(nil))
	}
}

// withEmptyNodes returns the volume with the empty nodes in slots of theirs, where no entry leads.
func (v volume) withEmptyNodes(t *testing.T, slot func(number int) int) volume {
	t.Helper()
	for number, p := range upwards(v.n) {
		if !v.uses(p) {
			v = v.with(t, nodeSector(v.n, p, slot(number)), bytesOf(t, emptyNode(p)))
		}
	}
	return v
}

// P20.6: from a disk that has the nodes of a tree in their slots, under its root, come the tree, the slots of its nodes that are not empty, and a working tree with that root.
func TestTreesOnDisks(t *testing.T) {
	t.Parallel()
	draw := drawer(3)
	for _, n := range append([]int{64, 65, 257, 1025}, smallNumbers...) {
		for _, state := range states(n) {
			l, slots := make([]api.Record, n), make([]int, len(upwards(n)))
			for block := range l {
				// No data has to be there.
				l[block] = api.Record{State: state(block)}
				if l[block].State > 0 {
					l[block].Nonce, l[block].Tag = nonceOf(block), sha256.Sum256([]byte{byte(block)})
				}
			}
			for number := range slots {
				slots[number] = draw(2)
			}
			checkTreeOnDisk(t, n, l, slots)
		}
	}
}

func checkTreeOnDisk(t *testing.T, n int, l []api.Record, slots []int) {
	t.Helper()
	stored, e := merkles.Build(n, l, slots)
	if e != api.OK {
		t.Fatal(e)
	}
	sectors := map[int][]byte{}
	for number, p := range upwards(n) {
		sectors[nodeSector(n, p, slots[number])] = bytesOf(t, stored.Nodes[number])
	}
	root, _ := merkles.Root(stored)
	d, c := diskOf(t, sizeOf(n), sectors), api.Cell{Root: root, Epoch: uint64(40 + slots[len(slots)-1])}
	got, gotSlots, p, e := recovers.Tree(n, d, c)
	if got.Blocks != n || !slices.Equal(got.Nodes, stored.Nodes) || len(gotSlots) != len(slots) || p != (loads.Problem{}) || e != api.OK {
		t.Fatalf("the tree %v in the slots %v is read as %v in %v, %v, %d", stored, slots, got, gotSlots, p, e)
	}
	for number, slot := range gotSlots {
		if !isEmpty(stored.Nodes[number]) && slot != slots[number] {
			t.Fatalf("node %d of %d blocks has the slot %d, want %d", number, n, slot, slots[number])
		}
	}
	w, p, e := recovers.Working(n, d, c)
	if p != (loads.Problem{}) || e != api.OK || updates.Check(w) != api.OK {
		t.Fatalf("%d blocks: no working tree, but %v, %d, %d", n, p, e, updates.Check(w))
	}
	if r, e := updates.Root(w); r != root || e != api.OK {
		t.Fatalf("%d blocks: the working tree has the root %v, %d, want %v", n, r, e, root)
	}
	if dirty, e := updates.Dirty(w); len(dirty) > 0 || e != api.OK {
		t.Fatalf("%d blocks: %v of the working tree are dirty, %d", n, dirty, e)
	}
	for block, r := range l {
		if x, e := updates.Record(w, block); n < 40 && (x != r || e != api.OK) {
			t.Fatalf("%d blocks: the record of block %d is %v, %d, want %v", n, block, x, e, r)
		}
	}
}

// P20.2 to P20.5: the root is read from the slot that the epoch says; the rest of the epoch, and the mark, say nothing.
func TestEpochs(t *testing.T) {
	for _, n := range []int{1, 4, 5, 17, 65} {
		even := volumeOf(t, source{n: n, state: both, slot: thirds, epoch: 8})
		odd := volumeOf(t, source{n: n, state: both, slot: thirds, epoch: 9})
		for _, epoch := range []uint64{0, 1, 2, 3, 254, 255, 1<<32 - 1, 1 << 32, 1<<63 - 1, 1 << 63, math.MaxUint64 - 1, math.MaxUint64} {
			v, other := [2]volume{even, odd}[epoch%2], [2]volume{odd, even}[epoch%2]
			v.cell.Epoch, v.cell.Mark = epoch, epoch*3
			v.check(t, v.stored(nil))
			// The slot that the other epoch says has nothing, the same root, or another one.
			v.disk, v.sectors = other.disk, other.sectors
			sector := v.sectorOf(rootOf(n))
			v.check(t, v.stored(map[int]loads.Fault{sector: loads.Absent}))
			v = v.with(t, sector, other.sectors[sector^1])
			v.check(t, v.stored(nil))
			v.with(t, sector, bytesOf(t, emptyNode(rootOf(n)))).check(t, v.stored(map[int]loads.Fault{sector: loads.Altered}))
		}
	}
}

// P20.2 to P20.5: each bit of the root that the cell has.
func TestRoots(t *testing.T) {
	for _, n := range []int{1, 5, 17} {
		v := full(t, n)
		for bit := range 256 {
			w := v
			w.cell.Root[bit/8] ^= 1 << (bit % 8)
			w.check(t, v.stored(map[int]loads.Fault{v.sectorOf(rootOf(n)): loads.Altered}))
		}
		v.cell = api.Cell{}
		v.check(t, v.stored(map[int]loads.Fault{v.sectorOf(rootOf(n)): loads.Altered}))
	}
}

// P20.3 to P20.5: keys that are not the volume's: every block that was written is lost, and the tree is as it was; another key for encryption alone makes other blocks.
func TestKeys(t *testing.T) {
	for _, n := range []int{1, 4, 5, 17, 65} {
		for i, state := range states(n) {
			v := volumeOf(t, source{n: n, state: state, slot: alternate, epoch: uint64(i)})
			faults := map[int]loads.Fault{}
			for block, b := range v.blocks {
				if b != (api.Block{}) {
					faults[dataSector(block, v.recordOf(block))] = loads.Forged
				}
			}
			w := v
			w.keys = keysOf(1, 3)
			w.check(t, v.stored(faults))
			w.keys = keysOf(9, 2)
			r := w.want()
			w.check(t, r)
			for block, b := range v.blocks {
				if (b == r.blocks[block]) != (b == api.Block{}) {
					t.Fatalf("%d blocks: with another key the block %d is %v", n, block, r.blocks[block])
				}
			}
		}
	}
}

// P20.3: the tree of 4096 blocks of which one was written, written out.
func TestEmptyNodes(t *testing.T) {
	v := volumeOf(t, source{n: 4096, state: func(block int) uint8 { return only(block == 2049, 2) }, slot: zeros, epoch: 1})
	made, slots, p, e := recovers.Tree(4096, v.disk, v.cell)
	if len(made.Nodes) != 1365 || len(slots) != 1365 || p != (loads.Problem{}) || e != api.OK {
		t.Fatal(len(made.Nodes), len(slots), p, e)
	}
	used := []int{512, 1024 + 128, 1280 + 32, 1344 + 8, 1360 + 2, 1364}
	for number, x := range made.Nodes {
		s, _ := shapes.Of(4096, 2*4096+2*number)
		in := slices.Contains(used, number)
		if int(x.Level) != s.Level || int(x.Index) != s.Index || (nodes.Used(x) == 1) != in || isEmpty(x) == in {
			t.Fatalf("node %d is %v", number, x)
		}
		if want := int(only(!in || number == 1364, 1)); slots[number] != want {
			t.Fatalf("node %d has the slot %d, want %d", number, slots[number], want)
		}
	}
}
