package updates_test

import (
	"crypto/sha256"
	"encoding/hex"
	"math"
	"slices"
	"strconv"
	"testing"

	"caisson/api"
	"caisson/merkles"
	"caisson/shapes"
	"caisson/updates"
)

// The examples of the chapter.
func TestExamples(t *testing.T) {
	empty, e := merkles.Build(5, make([]api.Record, 5), make([]int, 3))
	if e != api.OK {
		t.Fatal(e)
	}
	tree, e := updates.Of(empty, []int{1, 1, 0})
	if e != api.OK {
		t.Fatal(e)
	}
	n, m, g, h := api.Nonce{Shard: 1, Counter: 7}, api.Nonce{Shard: 1, Counter: 8}, ascending(1), ascending(2)

	checkTarget(t, tree, 4, 0, api.OK)
	set, slot, e := updates.Set(tree, 4, n, g)
	if slot != 0 || e != api.OK {
		t.Fatal(slot, e)
	}
	checkDirty(t, set, []shapes.Place{{Level: 0, Index: 1}, {Level: 1, Index: 0}}, api.OK)

	group := api.Node{Index: 1, Records: [4]api.Record{{State: 1, Nonce: n, Tag: g}}}
	root := api.Node{Level: 1, Entries: [4]api.Entry{1: {State: 1, Digest: digestOf(group)}}}
	checkRecord(t, set, 4, group.Records[0], api.OK)
	checkRoot(t, set, digestOf(root), api.OK)
	if want := []updates.Node{{Slot: 1}, {Node: group, Slot: 1, Dirty: true, Changed: [4]bool{true}}, {Node: root, Dirty: true}}; !slices.Equal(set.Nodes, want) {
		t.Fatalf("the nodes are %+v, want %+v", set.Nodes, want)
	}
	again, slot, e := updates.Set(set, 4, m, h)
	if slot != 0 || e != api.OK {
		t.Fatal(slot, e)
	}

	for _, x := range []updates.Tree{set, again} {
		published, e := updates.Publish(x)
		if e != api.OK || published.Nodes[1].Slot != 0 || published.Nodes[2].Slot != 1 || published.Nodes[0].Slot != 1 {
			t.Fatalf("Publish = %s, %d", show(published), e)
		}
		checkTarget(t, published, 4, 1, api.OK)
		checkDirty(t, published, nil, api.OK)
	}
}

// knownBlock returns the block that the other program set in a step.
func knownBlock(n, step int) int {
	if step%4 == 0 {
		return n / 2
	}
	return (step*step*37 + 11*step + n - 1) % n
}

// P18.3, P18.4, P18.5: what another program (with Python's hashlib) computed for 23 calls of Set, with a Publish after each sixth one: the slots of the data, the root, and the digest of everything.
func TestKnownTrees(t *testing.T) {
	for _, x := range []struct {
		n                int
		slots, root, all string
	}{
		{1, "00000011111100000011111", "12ac0fb3e9207e11435c3ad8c6e9754fa0e60be00d8d3a2248d9c5d86f5b5fc8", "6a54fe09c012edfd0b169c8a36036fd4e738176f02ca30afb2a7f4acda8b4084"},
		{3, "00000011111100000011111", "44c2a6e5f7235395e012adda33d050263b25e10d20ed9dcd37bac927237bb0d8", "b69f08139ca7095dd1d8bd96efd9afaa2850f50540694d86cf6b30629d267f9f"},
		{4, "00000011111100000011111", "7ec06492a9e606f90e428fe0720e30e4b87bc7432a18c53b856859b0bbbc8e6f", "5896c39e58e2d452c54f0060717c78cc6b133ada7e128aea45ea2d2d8f7430f8"},
		{5, "00000011111100000011111", "6a5dbff7d7ce89444f67d1c0fe57ceb08a0495f2e0b5d5691c5852cc539e6d0e", "1239daa2a61c2f5c0532af28ff9e95c1b644eb227371b72b8f0a94947acc7bb2"},
		{16, "00000000100000110100111", "477e7892368c7ac1d8e871a5586baffc18fc306022917fc7c7cde8077d13afcc", "3396bfb9979718769fa8869ad3e3df11e41fe947599fc00518412cf39ebee3db"},
		{17, "00000000100001100110110", "68ff2670971a77b9d51c61fcdf9fab07d9932c8dc3bccdfbe301223157f5e6e3", "2f2fffd13b050acfd757fad084e50810cd2db7f6e1b9d5eea9e2bc827edd4085"},
		{64, "00000000100000110000100", "c702bcab5dc7fe1128469ed6de107e19faae37b9f24a87fedd2bea3551a550ed", "1e1e57110201ec7ffb531124ac5b00d638cca93d92190ef29757ba343a091862"},
		{65, "00000011111100000000100", "2021b69f26f35dce2543df2b8529baed2a651b9259b67527ded84f9ea58baa93", "e8aa65ec88a2d07cd89310a74b806dba7b8588b1039cc875bf8b7ada0dace18a"},
		{256, "00000000100000000000100", "64eabc21202016c8d0235f5a013b5080279c453a3566c58e2c73f1b1bdcdec94", "e8dc14ddda40de6d219ce951ff95c25f43b3c03f59d931b8ddd97beb526e584c"},
		{257, "00000000100000000000100", "88b4559e225828a830353adc42a475e6cbc479639aedcbd0144647118a8a8030", "d2064833de16b7c26ec63a902b207ccf6df16d721167f7f6ce13a58a0bebfe7e"},
		{1024, "00000000100000000000100", "cbd88cb96475852fab23542044402fe0627162394cd4c1a603165de99445657b", "69e105f85dd4524ea21cd04d37fb55fd44c658c07cc48af498d290b78b91d904"},
		{1025, "00000000100000000000100", "387f78f8a14d22f2e6af43cb1ab791678cccdb642e748af91f181774484fe463", "182acb785cf08d90a13c2bc635705c0946b7ade289a511e38cac92bed5d77e72"},
		{4096, "00000000100000000000100", "d97663b08467e08d3e13936756ab0f07800596be1afa53933c86a1993b89b528", "5738c13a21432e082bf392377005326709779159251e9fb3f4e79dd9ca60f3a6"},
	} {
		tree, slots := stateWith(x.n, none, zeros).tree(), ""
		for step := range 23 {
			made, slot, e := updates.Set(tree, knownBlock(x.n, step), api.Nonce{Shard: uint32(step % 8), Counter: uint64(step+1) << (2 * step)}, ascending(9*step))
			if e == api.OK && step%6 == 5 {
				made, e = updates.Publish(made)
			}
			if e != api.OK {
				t.Fatalf("%d blocks, step %d: error %d", x.n, step, e)
			}
			tree, slots = made, slots+strconv.Itoa(slot)
		}
		root, e := updates.Root(tree)
		if slots != x.slots || hex.EncodeToString(root[:]) != x.root || e != api.OK {
			t.Errorf("%d blocks: the slots are %s, the root is %x, %d, want %s, %s", x.n, slots, root, e, x.slots, x.root)
		}
		if all := sha256.Sum256(allBytes(tree)); hex.EncodeToString(all[:]) != x.all {
			t.Errorf("%d blocks: the tree is %s with the digest %x, want %s", x.n, show(tree), all, x.all)
		}
	}
}

// allBytes returns everything that there is in a tree.
func allBytes(tree updates.Tree) []byte {
	var b []byte
	for _, x := range tree.Nodes {
		b = append(append(b, nodeBytes(x.Node)...), byte(x.Slot))
		for _, flag := range append([]bool{x.Dirty}, x.Changed[:]...) {
			if flag {
				b = append(b, 1)
			} else {
				b = append(b, 0)
			}
		}
	}
	return b
}

// P18.1 to P18.6: trees of all kinds, with all ways to mark their blocks and to give slots to their places.
func TestTrees(t *testing.T) {
	t.Parallel()
	for _, n := range append([]int{10, 11, 12, 14, 18, 63, 66}, smallNumbers...) {
		for i, m := range marks() {
			for j, slot := range slotRules() {
				if n <= 9 || (i+j)%5 == 0 {
					judge(t, stateWith(n, m, slot).tree())
				}
			}
		}
	}
	for _, n := range append([]int{255, 1000, 4095}, allNumbers...) {
		for i, m := range marks() {
			if n < 100 || i%9 == n%9 {
				judge(t, stateWith(n, m, slotRules()[i%5]).tree())
			}
		}
	}
}

// P18.1 to P18.6: all records that the blocks of small volumes can have, changed or not.
func TestAllMarks(t *testing.T) {
	t.Parallel()
	for n, count := 1, 5; n <= 5; n, count = n+1, count*5 {
		for number := range count {
			code := func(block, _ int) int { return number / int(math.Pow(5, float64(block))) % 5 }
			if n <= 4 {
				judge(t, stateWith(n, code, zeros).tree())
				judge(t, stateWith(n, code, ones).tree())
			} else {
				judge(t, stateWith(n, code, func(i int) int { return number >> i & 1 }).tree())
			}
		}
	}
}

// P18.3, P18.4: each block of trees of all kinds, and blocks that do not exist.
func TestBlocks(t *testing.T) {
	t.Parallel()
	for _, n := range smallNumbers {
		for i, m := range marks() {
			s := stateWith(n, m, slotRules()[i%5])
			for block := range n {
				judgeBlock(t, s, s.tree(), block)
			}
			judgeError(t, s.tree(), badBlocks(n), api.ErrArg)
		}
	}
	for _, n := range allNumbers {
		s := stateWith(n, cycle, drawnSlots)
		tree := s.tree()
		for _, block := range []int{0, n / 3, n - 1, n - 2} {
			if block >= 0 && block < n {
				judgeBlock(t, s, tree, block)
			}
		}
		judgeError(t, tree, badBlocks(n), api.ErrArg)
	}
}

// P18.3: nonces and tags of all kinds, zeros and the greatest ones among them.
func TestSetValues(t *testing.T) {
	var full api.Digest
	for i := range full {
		full[i] = 0xff
	}
	for _, n := range []int{1, 5, 17} {
		for _, m := range []mark{none, cycle, where(4, 2, first)} {
			s := stateWith(n, m, alternating)
			for block := range n {
				for _, nonce := range []api.Nonce{{}, {Shard: 1}, {Counter: 1}, {Shard: math.MaxUint32, Counter: math.MaxUint64}, s.records[block].Nonce} {
					for _, tag := range []api.Digest{{}, full, ascending(3), s.records[block].Tag} {
						checkSet(t, s.tree(), block, nonce, tag, s.set(block, nonce, tag).tree(), s.target(block), api.OK)
					}
				}
			}
		}
	}
}

// P18.3: what a Set does, written out for a tree of three levels.
func TestSetWrittenOut(t *testing.T) {
	s := stateWith(21, none, alternating)
	s.records[18], s.records[7] = recordOf(18, 1), recordOf(7, 2)
	tree := s.tree()
	n, tag := api.Nonce{Shard: 2, Counter: 9}, ascending(50)
	got, slot, e := updates.Set(tree, 18, n, tag)
	if slot != 1 || e != api.OK {
		t.Fatal(slot, e)
	}
	// The places have the numbers 0 to 5 (groups), 6 and 7, and 8 (the root).
	want := copied(tree)
	want.Nodes[4].Node.Records[2] = api.Record{State: 2, Nonce: n, Tag: tag}
	want.Nodes[4].Changed[2], want.Nodes[4].Dirty = true, true
	want.Nodes[7].Node.Entries[0] = api.Entry{State: 2, Digest: digestOf(want.Nodes[4].Node)}
	want.Nodes[7].Dirty = true
	want.Nodes[8].Node.Entries[1] = api.Entry{State: 1, Digest: digestOf(want.Nodes[7].Node)}
	want.Nodes[8].Dirty = true
	if !same(got, want) {
		t.Fatalf("Set = %s, want %s", show(got), show(want))
	}
	checkDirty(t, got, []shapes.Place{place(0, 4), place(1, 1), place(2, 0)}, api.OK)

	published, e := updates.Publish(got)
	want.Nodes[4].Slot, want.Nodes[7].Slot, want.Nodes[8].Slot = 1, 0, 1
	want.Nodes[4].Changed = [4]bool{}
	want.Nodes[4].Dirty, want.Nodes[7].Dirty, want.Nodes[8].Dirty = false, false, false
	if !same(published, want) || e != api.OK {
		t.Fatalf("Publish = %s, %d, want %s", show(published), e, show(want))
	}
	// Nothing is dirty now; but for the root a further commit changes no slot.
	published, e = updates.Publish(published)
	want.Nodes[8].Slot = 0
	if !same(published, want) || e != api.OK {
		t.Fatalf("a second Publish = %s, %d, want %s", show(published), e, show(want))
	}
}

// P18.5, P18.7: what a commit writes goes to no sector of a committed node, and what it leaves is where it was written.
func TestPublishSlots(t *testing.T) {
	for _, n := range append([]int{64, 65}, smallNumbers...) {
		for i, m := range marks() {
			tree := stateWith(n, m, slotRules()[i%5]).tree()
			dirty, e := updates.Dirty(tree)
			made, err := updates.Publish(tree)
			if e != api.OK || err != api.OK {
				t.Fatal(e, err)
			}
			for number, p := range places(n) {
				before, after := tree.Nodes[number], made.Nodes[number]
				writes := slices.Contains(dirty, p) || p == place(heightOf(n), 0)
				if writes != (after.Slot != before.Slot) || after.Node != before.Node || after.Dirty || after.Changed != [4]bool{} {
					t.Fatalf("%d blocks: Publish made %+v from %+v", n, after, before)
				}
			}
		}
	}
}

// P18.6, P18.7: the tree that Merkle returns is valid, and is the one that merkles.Build makes of the records and the slots; a working tree is that of it and the slots after a commit.
func TestMerkle(t *testing.T) {
	for _, n := range append([]int{64, 65, 257, 1024, 4096}, smallNumbers...) {
		for i, m := range marks() {
			if n > 100 && i%6 > 0 {
				continue
			}
			s := stateWith(n, m, slotRules()[i%5])
			tree, slots, e := updates.Merkle(s.tree())
			if e != api.OK {
				t.Fatalf("Merkle of %d blocks: error %d", n, e)
			}
			built, e := merkles.Build(n, s.records, slots)
			if e != api.OK || built.Blocks != tree.Blocks || !slices.Equal(built.Nodes, tree.Nodes) || merkles.Check(tree) != api.OK {
				t.Fatalf("%d blocks: Build makes another tree than Merkle returned, or none: %d", n, e)
			}
			// The root is written by a commit also if it is not dirty.
			root := len(slots) - 1
			slots[root] = 1 - s.slots[root]
			checkOf(t, tree, slots, s.published().tree(), api.OK)
		}
	}
}

// P18.7: the records of two blocks can be set in either order.
func TestOrder(t *testing.T) {
	t.Parallel()
	for _, n := range []int{2, 4, 5, 8, 17, 21, 65} {
		for _, m := range []mark{none, cycle, drawnMark, where(2, 0, upperHalf), where(3, 1, oddGroups)} {
			tree := stateWith(n, m, drawnSlots).tree()
			for a := range n {
				for b := range n {
					if a == b || n > 21 && (a*b)%7 > 0 {
						continue
					}
					x := setBoth(t, tree, a, b)
					if y := setBoth(t, tree, b, a); !same(x, y) {
						t.Fatalf("%d blocks: setting %d and %d makes %s, in the other order %s", n, a, b, show(x), show(y))
					}
				}
			}
		}
	}
}

// setBoth sets the records of two blocks, each to values of its own.
func setBoth(t *testing.T, tree updates.Tree, a, b int) updates.Tree {
	t.Helper()
	for _, block := range []int{a, b} {
		made, _, e := updates.Set(tree, block, api.Nonce{Shard: 3, Counter: uint64(block)}, ascending(100+block))
		if e != api.OK {
			t.Fatalf("Set(.., %d, ..): error %d", block, e)
		}
		tree = made
	}
	return tree
}

// P18.7: until a commit a block has the same target slot, after it the other one.
func TestTargets(t *testing.T) {
	for _, n := range smallNumbers {
		for _, m := range []mark{none, where(1, 0, all), where(2, 0, all), where(3, 0, all), where(4, 0, all), cycle} {
			for block := range n {
				tree := stateWith(n, m, eachThird).tree()
				first, e := updates.Target(tree, block)
				for step := 0; step < 6 && e == api.OK; step++ {
					want := (first + step/2) % 2
					slot := 0
					checkTarget(t, tree, block, want, api.OK)
					if tree, slot, e = updates.Set(tree, block, api.Nonce{Counter: uint64(step)}, ascending(step)); slot != want {
						t.Fatalf("%d blocks, block %d, step %d: the slot is %d, want %d", n, block, step, slot, want)
					}
					if e == api.OK && step%2 == 1 {
						tree, e = updates.Publish(tree)
					}
				}
				if e != api.OK {
					t.Fatalf("%d blocks, block %d: error %d", n, block, e)
				}
			}
		}
	}
}

// P18.3 to P18.7: long sequences of Set and Publish, each step against the model.
func TestSequences(t *testing.T) {
	draw := drawer(18)
	for _, n := range append(slices.Clone(smallNumbers), allNumbers...) {
		s := stateWith(n, none, drawnSlots)
		tree := s.tree()
		steps := 40
		if n > 100 {
			steps = 8
		}
		for step := range steps {
			if draw(5) == 0 {
				s = s.published()
				tree = checkPublish(t, tree, s.tree(), api.OK)
			} else {
				block, nonce, tag := draw(n), api.Nonce{Shard: uint32(draw(8)), Counter: uint64(draw(1 << 40))}, ascending(draw(256))
				slot := s.target(block)
				s = s.set(block, nonce, tag)
				tree = checkSet(t, tree, block, nonce, tag, s.tree(), slot, api.OK)
			}
			if n < 100 || step%4 == 3 {
				judge(t, tree)
			}
		}
	}
}

// P18.3 to P18.7: all sequences of four steps on small volumes.
func TestShortSequences(t *testing.T) {
	for _, n := range []int{1, 2, 5} {
		var walk func(s state, tree updates.Tree, left int)
		walk = func(s state, tree updates.Tree, left int) {
			checkCheck(t, tree, api.OK)
			judgeWhole(t, s, tree)
			if left == 0 {
				return
			}
			for block := range n {
				nonce, tag := api.Nonce{Counter: uint64(left)}, ascending(block*left)
				next := s.set(block, nonce, tag)
				walk(next, checkSet(t, tree, block, nonce, tag, next.tree(), s.target(block), api.OK), left-1)
			}
			walk(s.published(), checkPublish(t, tree, s.published().tree(), api.OK), left-1)
		}
		s := stateWith(n, none, alternating)
		walk(s, s.tree(), 4)
	}
}

// P18.3, P18.5: no tree shares memory with the one that it was made from.
func TestValues(t *testing.T) {
	s := stateWith(21, cycle, drawnSlots)
	tree := s.tree()
	one, _, e := updates.Set(tree, 3, api.Nonce{Counter: 1}, ascending(1))
	two, _, err := updates.Set(one, 20, api.Nonce{Counter: 2}, ascending(2))
	three, bad := updates.Publish(two)
	if e != api.OK || err != api.OK || bad != api.OK {
		t.Fatal(e, err, bad)
	}
	list := []updates.Tree{tree, one, two, three}
	want := []updates.Tree{copied(tree), copied(one), copied(two), copied(three)}
	for i := range list {
		for block := range 21 {
			if _, _, e := updates.Set(list[i], block, api.Nonce{}, api.Digest{}); e != api.OK {
				t.Fatal(e)
			}
		}
		spoil(list[i])
		for j := range list {
			if j > i && !same(list[j], want[j]) {
				t.Fatalf("the tree %d shares memory with %d", j, i)
			}
		}
	}
}
