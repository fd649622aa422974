package recovers_test

import (
	"bytes"
	"slices"
	"testing"

	"caisson/api"
	"caisson/disks"
	"caisson/loads"
	"caisson/recovers"
	"caisson/updates"
)

// The checks compare what each function returns with what has to come, its memory included, and then overwrite it: so memory that it shared would be seen by the next check.

func compareList[T comparable](t *testing.T, what string, got, want []T) {
	t.Helper()
	if len(got) != len(want) || cap(got) != len(got) {
		t.Fatalf("%s has %d elements with room for %d, want %d", what, len(got), cap(got), len(want))
	}
	for i, x := range got {
		if x != want[i] {
			t.Fatalf("%s is %v at %d, want %v", what, x, i, want[i])
		}
	}
}

func compare[T comparable](t *testing.T, what string, got, want T) {
	t.Helper()
	if got != want {
		t.Fatalf("%s is %v, want %v", what, got, want)
	}
}

// check checks what all functions return for a volume, and that they leave it as it was.
func (v volume) check(t *testing.T, want result) {
	t.Helper()
	root, e := recovers.Open(v.n, v.disk, v.cell)
	compare(t, "the root", root, want.root)
	compare(t, "the root's error", e, want.rootErr)
	v.checkTree(t, want.tree)
	v.checkWorking(t, want.tree)
	v.checkBlocks(t, want)
	v.checkDisk(t)
}

func (v volume) checkTree(t *testing.T, want tree) {
	t.Helper()
	got, slots, p, e := recovers.Tree(v.n, v.disk, v.cell)
	compare(t, "the tree's problem", p, want.problem)
	compare(t, "the tree's error", e, want.err)
	compareList(t, "the nodes", got.Nodes, want.nodes)
	compareList(t, "the slots", slots, want.slots)
	blocks := v.n
	if want.err != api.OK {
		blocks = 0
	}
	compare(t, "the number of blocks", got.Blocks, blocks)
	for i := range got.Nodes {
		got.Nodes[i], slots[i] = api.Node{Level: 77}, 78
	}
}

func (v volume) checkWorking(t *testing.T, want tree) {
	t.Helper()
	got, p, e := recovers.Working(v.n, v.disk, v.cell)
	compare(t, "the working tree's problem", p, want.problem)
	compare(t, "the working tree's error", e, want.err)
	var l []updates.Node
	for i, x := range want.nodes {
		l = append(l, updates.Node{Node: x, Slot: want.slots[i]})
	}
	compareList(t, "the working tree", got.Nodes, l)
	if e != api.OK {
		compare(t, "the number of blocks", got.Blocks, 0)
		return
	}
	compare(t, "the number of blocks", got.Blocks, v.n)
	root, e := updates.Root(got)
	if root != v.cell.Root || e != api.OK {
		t.Fatalf("the working tree has the root %v, %d, want that of the cell", root, e)
	}
	for i := range got.Nodes {
		got.Nodes[i] = updates.Node{Slot: 77, Dirty: true}
	}
}

func (v volume) checkBlocks(t *testing.T, want result) {
	t.Helper()
	blocks, at, e := recovers.All(v.n, v.disk, v.cell, v.keys)
	compareList(t, "all blocks", blocks, want.blocks)
	compare(t, "the first block that is not accepted", at, want.at)
	compare(t, "the error of all blocks", e, want.err)
	var err api.Errno
	if want.err == api.ErrArg {
		err = api.ErrArg
	}
	survey, e := recovers.Survey(v.n, v.disk, v.cell, v.keys)
	compareList(t, "the survey", survey, want.survey)
	compare(t, "the survey's error", e, err)
	lost, e := recovers.Lost(v.n, v.disk, v.cell, v.keys)
	compareList(t, "what is lost", lost, want.lost)
	compare(t, "the error of what is lost", e, err)
	for i := range blocks {
		blocks[i] = api.Block{0: 77}
	}
	for i := range survey {
		survey[i] = loads.Problem{Sector: 77, Fault: 78}
	}
	for i := range lost {
		lost[i] = 79
	}
}

// checkDisk checks that the disk still has the contents that it had.
func (v volume) checkDisk(t *testing.T) {
	t.Helper()
	present := v.disk.Present()
	if len(present) != len(v.sectors) {
		t.Fatalf("%d sectors of the disk are not absent, want %d", len(present), len(v.sectors))
	}
	for _, sector := range present {
		if b, e := v.disk.Read(sector); e != api.OK || !bytes.Equal(b, v.sectors[sector]) {
			t.Fatalf("sector %d of the disk was changed to %x, %d", sector, b, e)
		}
	}
}

// checkFresh checks what Fresh returns for a number of blocks, and returns it as a volume.
func checkFresh(t *testing.T, n int) volume {
	t.Helper()
	d, c, e := recovers.Fresh(n)
	if e != api.OK {
		t.Fatalf("Fresh(%d): error %d", n, e)
	}
	root := rootOf(n)
	v := volumeOf(t, source{n: n, state: never, slot: ones})
	v.cell.Mark = 0
	compare(t, "the size of the disk", d.Size(), sizeOf(n))
	compare(t, "the cell", c, v.cell)
	compareList(t, "what is on the disk", d.Present(), []int{nodeSector(n, root, 0)})
	if !disks.Same(d, v.disk) {
		t.Fatalf("%d blocks: the fresh disk has another content", n)
	}
	// The next one shares nothing with this one.
	v.disk, _ = d.Write(0, []byte{1})
	if d, _, _ = recovers.Fresh(n); !slices.Equal(d.Present(), []int{nodeSector(n, root, 0)}) {
		t.Fatalf("%d blocks: the second fresh disk has %v", n, d.Present())
	}
	v.disk = d
	return v
}
