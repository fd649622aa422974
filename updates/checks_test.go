package updates_test

import (
	"encoding/hex"
	"slices"
	"strconv"
	"testing"

	"caisson/api"
	"caisson/merkles"
	"caisson/shapes"
	"caisson/updates"
)

// The checks call a function and compare what it returns with what has to come, its memory included; then they overwrite it, so that memory that it shares with an argument would be seen as a change of that.

func same(a, b updates.Tree) bool { return a.Blocks == b.Blocks && slices.Equal(a.Nodes, b.Nodes) }

// copied returns a tree that shares no memory with another one.
func copied(t updates.Tree) updates.Tree {
	return updates.Tree{Blocks: t.Blocks, Nodes: slices.Clone(t.Nodes)}
}

// show returns what is worth saying of a tree: that and all its nodes would be too much.
func show(t updates.Tree) string {
	text := strconv.Itoa(t.Blocks) + " blocks, " + strconv.Itoa(len(t.Nodes)) + " nodes, with room for " + strconv.Itoa(cap(t.Nodes))
	for _, x := range t.Nodes[:min(len(t.Nodes), 8)] {
		text += "\n" + strconv.Itoa(x.Slot) + " " + strconv.FormatBool(x.Dirty)
		for _, changed := range x.Changed {
			text += " " + strconv.FormatBool(changed)
		}
		text += " " + hex.EncodeToString(nodeBytes(x.Node))
	}
	return text
}

// spoil overwrites what a function returned.
func spoil(t updates.Tree) {
	for i := range t.Nodes {
		t.Nodes[i] = updates.Node{Node: api.Node{Level: 77, Index: 78}, Slot: 79, Dirty: true}
	}
}

// unchanged checks that a call has not changed a tree.
func unchanged(t *testing.T, what string, tree, before updates.Tree) {
	t.Helper()
	if !same(tree, before) {
		t.Fatalf("%s made the tree %s from %s", what, show(tree), show(before))
	}
}

// compare checks that a function returned a tree, in memory of its own, or an error alone.
func compare(t *testing.T, what string, got updates.Tree, e api.Errno, want updates.Tree, err api.Errno) {
	t.Helper()
	if !same(got, want) || e != err || cap(got.Nodes) != len(got.Nodes) {
		t.Fatalf("%s = %s, %d, want %s, %d", what, show(got), e, show(want), err)
	}
}

func checkOf(t *testing.T, tree merkles.Tree, slots []int, want updates.Tree, err api.Errno) {
	t.Helper()
	nodesBefore, slotsBefore := slices.Clone(tree.Nodes), slices.Clone(slots)
	for range 2 {
		got, e := updates.Of(tree, slots)
		compare(t, "Of", got, e, want, err)
		spoil(got)
		if !slices.Equal(tree.Nodes, nodesBefore) || !slices.Equal(slots, slotsBefore) {
			t.Fatalf("Of changed its arguments: %v, %v", tree, slots)
		}
	}
}

func checkCheck(t *testing.T, tree updates.Tree, want api.Errno) {
	t.Helper()
	before := copied(tree)
	if e := updates.Check(tree); e != want {
		t.Fatalf("Check(%s) = %d, want %d", show(tree), e, want)
	}
	unchanged(t, "Check", tree, before)
}

func checkTarget(t *testing.T, tree updates.Tree, block, want int, err api.Errno) {
	t.Helper()
	before := copied(tree)
	if got, e := updates.Target(tree, block); got != want || e != err {
		t.Fatalf("Target(%s, %d) = %d, %d, want %d, %d", show(tree), block, got, e, want, err)
	}
	unchanged(t, "Target", tree, before)
}

// checkSet checks what Set returns, and returns the tree.
func checkSet(t *testing.T, tree updates.Tree, block int, n api.Nonce, tag api.Digest, want updates.Tree, slot int, err api.Errno) updates.Tree {
	t.Helper()
	before := copied(tree)
	spoilt, _, _ := updates.Set(tree, block, n, tag)
	spoil(spoilt)
	unchanged(t, "Set", tree, before)
	got, at, e := updates.Set(tree, block, n, tag)
	compare(t, "Set", got, e, want, err)
	if at != slot {
		t.Fatalf("Set(%s, %d, ..) has the slot %d, want %d", show(tree), block, at, slot)
	}
	return got
}

func checkDirty(t *testing.T, tree updates.Tree, want []shapes.Place, err api.Errno) {
	t.Helper()
	before := copied(tree)
	for range 2 {
		got, e := updates.Dirty(tree)
		if !slices.Equal(got, want) || e != err || cap(got) != len(got) {
			t.Fatalf("Dirty(%s) = %v, %d with room for %d, want %v, %d", show(tree), got, e, cap(got), want, err)
		}
		clear(got)
	}
	unchanged(t, "Dirty", tree, before)
}

func checkRoot(t *testing.T, tree updates.Tree, want api.Digest, err api.Errno) {
	t.Helper()
	before := copied(tree)
	if got, e := updates.Root(tree); got != want || e != err {
		t.Fatalf("Root(%s) = %x, %d, want %x, %d", show(tree), got, e, want, err)
	}
	unchanged(t, "Root", tree, before)
}

func checkRecord(t *testing.T, tree updates.Tree, block int, want api.Record, err api.Errno) {
	t.Helper()
	before := copied(tree)
	if got, e := updates.Record(tree, block); got != want || e != err {
		t.Fatalf("Record(%s, %d) = %x, %d, want %x, %d", show(tree), block, got, e, want, err)
	}
	unchanged(t, "Record", tree, before)
}

// checkPublish checks what Publish returns, and returns the tree.
func checkPublish(t *testing.T, tree, want updates.Tree, err api.Errno) updates.Tree {
	t.Helper()
	before := copied(tree)
	spoilt, _ := updates.Publish(tree)
	spoil(spoilt)
	unchanged(t, "Publish", tree, before)
	got, e := updates.Publish(tree)
	compare(t, "Publish", got, e, want, err)
	return got
}

func checkMerkle(t *testing.T, tree updates.Tree, want merkles.Tree, slots []int, err api.Errno) {
	t.Helper()
	before := copied(tree)
	for range 2 {
		got, at, e := updates.Merkle(tree)
		if got.Blocks != want.Blocks || !slices.Equal(got.Nodes, want.Nodes) || !slices.Equal(at, slots) || e != err || cap(got.Nodes) != len(got.Nodes) || cap(at) != len(at) {
			t.Fatalf("Merkle(%s) = %v, %v, %d, want %v, %v, %d", show(tree), got, at, e, want, slots, err)
		}
		clear(got.Nodes)
		clear(at)
	}
	unchanged(t, "Merkle", tree, before)
}

// judge checks all functions that take a working tree: what they return for a valid one, or that they return the error of Check alone, whatever else they are given.
func judge(t *testing.T, tree updates.Tree) api.Errno {
	t.Helper()
	err := wantCheck(tree)
	checkCheck(t, tree, err)
	if err == api.OK {
		s := stateOf(tree)
		judgeWhole(t, s, tree)
		for _, block := range []int{0, s.n / 2, s.n - 1} {
			judgeBlock(t, s, tree, block)
		}
		judgeError(t, tree, []int{-1, s.n}, api.ErrArg)
		return err
	}
	checkDirty(t, tree, nil, err)
	checkRoot(t, tree, api.Digest{}, err)
	checkPublish(t, tree, updates.Tree{}, err)
	checkMerkle(t, tree, merkles.Tree{}, nil, err)
	judgeError(t, tree, []int{0, -1, tree.Blocks}, err)
	return err
}

// judgeWhole checks what the functions without a block return for the tree of a state.
func judgeWhole(t *testing.T, s state, tree updates.Tree) {
	t.Helper()
	if !same(tree, s.tree()) {
		t.Fatalf("the tree %s is not that of its state, %s", show(tree), show(s.tree()))
	}
	checkDirty(t, tree, s.dirty(), api.OK)
	checkRoot(t, tree, digestOf(tree.Nodes[len(tree.Nodes)-1].Node), api.OK)
	checkPublish(t, tree, s.published().tree(), api.OK)
	m, slots := s.merkle()
	checkMerkle(t, tree, m, slots, api.OK)
}

// judgeBlock checks what the functions with a block return for the tree of a state.
func judgeBlock(t *testing.T, s state, tree updates.Tree, block int) {
	t.Helper()
	n, tag := api.Nonce{Shard: 5, Counter: 1 << 50}, ascending(0x80)
	checkTarget(t, tree, block, s.target(block), api.OK)
	checkRecord(t, tree, block, s.records[block], api.OK)
	checkSet(t, tree, block, n, tag, s.set(block, n, tag).tree(), s.target(block), api.OK)
}

// judgeError checks that the functions with a block return an error alone.
func judgeError(t *testing.T, tree updates.Tree, blocks []int, err api.Errno) {
	t.Helper()
	for _, block := range blocks {
		checkTarget(t, tree, block, 0, err)
		checkRecord(t, tree, block, api.Record{}, err)
		checkSet(t, tree, block, api.Nonce{Counter: 7}, ascending(1), updates.Tree{}, 0, err)
	}
}
