package commits_test

import (
	"bytes"
	"math"
	"slices"
	"testing"

	"caisson/api"
	"caisson/commits"
	"caisson/disks"
	"caisson/loads"
	"caisson/shapes"
	"caisson/updates"
)

// volume is a disk with a committed tree and its data, under its cell, and what was put since.
type volume struct {
	n         int
	disk      disks.Disk
	cell      api.Cell
	committed updates.Tree
	old       []api.Block // what the blocks were at the commit

	tree updates.Tree    // the working tree
	data []commits.Write // of what was put, not on the disk yet
	now  []api.Block     // what the blocks are
	puts int             // how many there were since the beginning
}

// volumeOf returns the volume of a state in which nothing is changed. Junk tells whether there is something on the sectors that it does not need.
func volumeOf(t *testing.T, s state, epoch uint64, junk bool) *volume {
	t.Helper()
	tree := s.tree()
	v := &volume{n: s.n, committed: tree, tree: tree, cell: api.Cell{Root: digestOf(tree.Nodes[len(tree.Nodes)-1].Node), Epoch: epoch, Mark: 99}}
	d, e := disks.New(sizeOf(s.n))
	write := func(sector int, b []byte) {
		if e == api.OK {
			d, e = d.Write(sector, b)
		}
	}
	if junk {
		for sector := range sizeOf(s.n) {
			write(sector, bytes.Repeat([]byte{byte(sector)}, []int{32, 185, 137, 0, 256}[sector%5]))
		}
	}
	v.old = make([]api.Block, s.n)
	for block, r := range s.records {
		if r.State > 0 {
			data, _ := seal(keys, block, r.Nonce, plainOf(block))
			write(dataSector(block, int(r.State)-1), data)
			v.old[block] = plainOf(block)
		}
	}
	for number, p := range places(s.n) {
		if !s.isEmpty(p) || p.Level == heightOf(s.n) {
			write(nodeSector(s.n, p, s.slots[number]), nodeBytes(tree.Nodes[number].Node))
		}
	}
	if e != api.OK {
		t.Fatalf("a volume of %d blocks: error %d", s.n, e)
	}
	v.disk, v.now = d, slices.Clone(v.old)
	return v
}

// reads checks that blocks are read from a disk under a cell as they have to be: all of them, or if there are many of them some others each time.
func (v *volume) reads(t *testing.T, d disks.Disk, c api.Cell, want []api.Block, turn int) {
	t.Helper()
	step := 1 + v.n/70*9
	for block := turn % step; block < v.n; block += step {
		got, problem, e := loads.Block(v.n, d, c, keys, block)
		if got != want[block] || problem != (loads.Problem{}) || e != api.OK {
			t.Fatalf("%d blocks, epoch %d: block %d is %v, %v, %d, want %v", v.n, c.Epoch, block, got, problem, e, want[block])
		}
	}
}

// put puts a block, and checks that its data goes to no kept sector, and that these stay the kept ones.
func (v *volume) put(t *testing.T, block int, kept []int) {
	t.Helper()
	v.puts++
	plain := plainOf(block + 5000*v.puts)
	made, w, e := commits.Put(v.tree, keys, block, api.Nonce{Shard: 7, Counter: uint64(v.puts)}, plain)
	if e != api.OK || slices.Contains(kept, w.Sector) {
		t.Fatalf("%d blocks: Put of block %d writes to the sector %d, %d, of the kept ones %v", v.n, block, w.Sector, e, kept)
	}
	if after, e := commits.Kept(made); e != api.OK || !slices.Equal(after, kept) {
		t.Fatalf("%d blocks: after Put of block %d the kept sectors are %v, %d, not %v", v.n, block, after, e, kept)
	}
	v.tree, v.data = made, append(v.data, w)
	v.now = slices.Clone(v.now)
	v.now[block] = plain
}

// holds checks that the kept sectors of a disk have had no change since.
func (v *volume) holds(t *testing.T, d disks.Disk, kept []int) {
	t.Helper()
	for _, sector := range kept {
		before, _ := v.disk.Versions(sector)
		if after, e := d.Versions(sector); e != api.OK || after != before {
			t.Fatalf("%d blocks: the kept sector %d was written", v.n, sector)
		}
	}
}

// apply returns a disk after the first writes of a list.
func apply(t *testing.T, d disks.Disk, l []commits.Write, k int) disks.Disk {
	t.Helper()
	made, e := commits.Apply(d, l, k)
	if e != api.OK {
		t.Fatalf("Apply of %d of %d writes: error %d", k, len(l), e)
	}
	return made
}

// commit puts blocks and carries out the plan, and checks everything on the way; then the volume is the one after the commit.
func (v *volume) commit(t *testing.T, blocks []int, draw func(int) int) {
	t.Helper()
	kept, e := commits.Kept(v.tree)
	if e != api.OK {
		t.Fatal(e)
	}
	for _, block := range blocks {
		v.put(t, block, kept)
	}
	plan, next, e := commits.Plan(v.tree, v.cell)
	if e != api.OK {
		t.Fatal(e)
	}
	if last := plan[len(plan)-1]; last.Sector != rootSector(v.n, int(next.Epoch%2)) {
		t.Fatalf("%d blocks: the last write of the plan is %v, that of the root under the epoch %d", v.n, last, next.Epoch)
	}
	for _, w := range plan {
		if slices.Contains(kept, w.Sector) {
			t.Fatalf("%d blocks: the plan writes to the kept sector %d", v.n, w.Sector)
		}
	}
	step := 1 + len(v.data)/40
	for k := 0; k < len(v.data); k += step {
		v.reads(t, apply(t, v.disk, v.data, k), v.cell, v.old, k)
	}
	v.beginnings(t, v.some(draw), plan, kept)
	whole := apply(t, v.disk, v.data, len(v.data))
	v.beginnings(t, whole, plan, kept)
	whole = apply(t, whole, plan, len(plan))
	v.reads(t, whole, next, v.now, draw(99))

	v.disk, v.cell, v.old, v.data = whole, next, v.now, nil
	if v.tree, e = updates.Publish(v.tree); e != api.OK {
		t.Fatal(e)
	}
	v.committed = v.tree
}

// some returns the disk on which some of the data is, in another order.
func (v *volume) some(draw func(int) int) disks.Disk {
	d := v.disk
	for _, w := range slices.Backward(v.data) {
		if draw(2) == 0 {
			d, _ = d.Write(w.Sector, w.Bytes)
		}
	}
	return d
}

// beginnings checks that under the old cell blocks are as they were after each beginning of a plan.
func (v *volume) beginnings(t *testing.T, d disks.Disk, plan []commits.Write, kept []int) {
	t.Helper()
	step := 1 + len(plan)/40
	for k := 0; k <= len(plan); k++ {
		if k%step == 0 || k >= len(plan)-1 {
			begun := apply(t, d, plan, k)
			v.reads(t, begun, v.cell, v.old, k)
			v.holds(t, begun, kept)
		}
	}
}

// crash forgets what was put, after some of it and of a plan came onto the disk.
func (v *volume) crash(t *testing.T, draw func(int) int) {
	t.Helper()
	plan, _, e := commits.Plan(v.tree, v.cell)
	if e != api.OK {
		t.Fatal(e)
	}
	v.disk = apply(t, v.some(draw), plan, draw(len(plan)+1))
	v.tree, v.data, v.now = v.committed, nil, v.old
	v.reads(t, v.disk, v.cell, v.now, draw(99))
}

// choices are the sets of blocks that the tests put before a commit: nothing, one block, one twice, several of one group, several of several groups, and all.
func choices(n int, draw func(int) int) [][]int {
	var whole, spread, group []int
	for block := range n {
		whole = append(whole, block)
		if block%5 == n%5 {
			spread = append(spread, block)
		}
		if block/4 == n/8 {
			group = append(group, block)
		}
	}
	one := draw(n)
	return [][]int{nil, {one}, {one, one}, group, {0, n - 1}, spread, whole, {n - 1}, slices.Concat(spread, group), nil}
}

// unchangedMarks are the marks with which nothing is changed.
func unchangedMarks() []mark {
	return []mark{none, where(1, 0, all), where(2, 0, first), where(2, 1, thirds), where(1, 0, oddGroups), where(2, 0, upperHalf), func(block, _ int) int { return block % 3 }}
}

// P19.5: on volumes of all kinds nothing that is committed is lost before the cell is written, and then nothing that was put.
func TestCommits(t *testing.T) {
	t.Parallel()
	draw := drawer(19)
	for _, n := range []int{1, 2, 3, 4, 5, 7, 16, 17, 21, 64, 65} {
		for i, m := range unchangedMarks() {
			if n > 30 && i%3 != n%3 {
				continue
			}
			epoch := uint64(i)
			v := volumeOf(t, stateWith(n, m, slotRules()[i%5]).rooted(i%2), epoch, i%3 == 1)
			v.reads(t, v.disk, v.cell, v.old, 0)
			for _, blocks := range choices(n, draw) {
				v.commit(t, blocks, draw)
			}
			if v.cell.Epoch != epoch+10 || v.cell.Mark != 99 {
				t.Fatal(v.cell)
			}
		}
	}
}

// P19.5: great volumes.
func TestGreatCommits(t *testing.T) {
	t.Parallel()
	draw := drawer(20)
	for i, n := range []int{256, 257, 1025, 4096} {
		v := volumeOf(t, stateWith(n, where(1, 2, thirds), drawnSlots).rooted(i%2), uint64(i), true)
		for j, blocks := range choices(n, draw)[1:6] {
			if n < 1000 || j%3 == i%3 {
				v.commit(t, blocks[:min(len(blocks), 20)], draw)
			}
		}
	}
}

// P19.5: crashes, after which a volume goes on with what is on the disk.
func TestCrashes(t *testing.T) {
	t.Parallel()
	draw := drawer(21)
	for _, n := range []int{1, 4, 5, 16, 17, 21, 65} {
		for i, m := range unchangedMarks() {
			v := volumeOf(t, stateWith(n, m, drawnSlots).rooted(i%2), uint64(i), i%2 == 0)
			for range 30 {
				kept, e := commits.Kept(v.tree)
				if e != api.OK {
					t.Fatal(e)
				}
				for range draw(6) {
					v.put(t, draw(n), kept)
				}
				if draw(3) > 0 {
					v.crash(t, draw)
				} else {
					v.commit(t, nil, draw)
				}
			}
		}
	}
}

// P19.5: the last commit that a cell can have.
func TestLastCommit(t *testing.T) {
	for _, n := range []int{1, 5, 17} {
		v := volumeOf(t, stateWith(n, where(1, 0, all), alternating).rooted(0), math.MaxUint64-1, true)
		v.commit(t, []int{n - 1}, drawer(1))
		if _, _, e := commits.Plan(v.tree, v.cell); v.cell.Epoch != math.MaxUint64 || e != api.ErrLimit {
			t.Fatal(v.cell, e)
		}
		v.reads(t, v.disk, v.cell, v.now, 0)
	}
}

// P19.5: of the two sectors of each block and place one is kept, and the other one is what Put, or a plan, can write.
func TestKeptOrWritten(t *testing.T) {
	for _, n := range append([]int{64, 65}, smallNumbers...) {
		for i, m := range marks() {
			s := stateWith(n, m, slotRules()[i%5])
			tree := s.tree()
			kept, e := commits.Kept(tree)
			var data []commits.Write
			for block := 0; block < n && e == api.OK; block++ {
				var w commits.Write
				tree, w, e = commits.Put(tree, keys, block, api.Nonce{Counter: uint64(block)}, plainOf(block))
				data = append(data, w)
			}
			plan, _, err := commits.Plan(tree, api.Cell{Epoch: uint64(s.rootSlot())})
			if e != api.OK || err != api.OK {
				t.Fatal(e, err)
			}
			sectors := slices.Concat(kept, commits.Sectors(data), commits.Sectors(plan))
			slices.Sort(sectors)
			size, _ := shapes.Sectors(n)
			if len(sectors) != size || sectors[0] != 0 || len(slices.Compact(sectors)) != size || sectors[size-1] != size-1 {
				t.Fatalf("%d blocks: the kept and the written sectors are %v, want each of %d once", n, sectors, size)
			}
		}
	}
}
