package merkles_test

import (
	"math"
	"slices"
	"testing"

	"caisson/api"
	"caisson/merkles"
)

func sameProof(a, b merkles.Proof) bool { return a.Block == b.Block && slices.Equal(a.Nodes, b.Nodes) }

func copiedProof(p merkles.Proof) merkles.Proof {
	return merkles.Proof{Block: p.Block, Nodes: slices.Clone(p.Nodes)}
}

func checkVerify(t *testing.T, n int, root api.Digest, p merkles.Proof, want api.Record, err api.Errno) {
	t.Helper()
	before := copiedProof(p)
	if got, e := merkles.Verify(n, root, p); got != want || e != err {
		t.Fatalf("Verify(%d, %x, %x) = %x, %d, want %x, %d", n, root, p, got, e, want, err)
	}
	if !sameProof(p, before) {
		t.Fatalf("Verify made the proof %x from %x", p, before)
	}
}

// verify checks a proof against the definition, and returns the error that it has.
func verify(t *testing.T, n int, root api.Digest, p merkles.Proof) api.Errno {
	t.Helper()
	want, err := wantVerify(n, root, p)
	checkVerify(t, n, root, p, want, err)
	return err
}

// checkNoCollision checks that Collide returns an error alone.
func checkNoCollision(t *testing.T, n int, root api.Digest, a, b merkles.Proof, want api.Errno) {
	t.Helper()
	c, d := copiedProof(a), copiedProof(b)
	if x, y, e := merkles.Collide(n, root, a, b); e != want || len(x) != 0 || len(y) != 0 {
		t.Fatalf("Collide(%d, %x, %x, %x) = %x, %x, %d, want %d", n, root, a, b, x, y, e, want)
	}
	if !sameProof(a, c) || !sameProof(b, d) {
		t.Fatalf("Collide made the proofs %x, %x from %x, %x", a, b, c, d)
	}
}

func rootOf(tree merkles.Tree) api.Digest { return digestOf(tree.Nodes[len(tree.Nodes)-1]) }

// wholePath returns all nodes of a tree down the path of a block.
func wholePath(tree merkles.Tree, block int) []api.Node {
	var l []api.Node
	for _, p := range wantPath(tree.Blocks, block) {
		l = append(l, tree.Nodes[wantNumber(tree.Blocks, p)])
	}
	return l
}

// P16.4, P16.5, P16.8: the proofs of all blocks of small trees, and what they prove.
func TestProve(t *testing.T) {
	for _, n := range smallNumbers {
		for _, f := range fills() {
			tree := treeOf(n, f)
			for block := range n {
				p := wantProof(tree, block)
				checkProve(t, tree, block, p, api.OK)
				checkVerify(t, n, rootOf(tree), p, f(block, n), api.OK)
				checkMost(t, tree, p)
			}
		}
	}
}

// checkMost checks that a proof has as many nodes as one may have: no other beginning of the path is a proof.
func checkMost(t *testing.T, tree merkles.Tree, p merkles.Proof) {
	t.Helper()
	path := wholePath(tree, p.Block)
	for size := range len(path) + 1 {
		if e := verify(t, tree.Blocks, rootOf(tree), merkles.Proof{Block: p.Block, Nodes: path[:size]}); (e == api.OK) != (size == len(p.Nodes)) {
			t.Fatalf("%d blocks, block %d: the error of %d nodes is %d, and Prove returned %d nodes", tree.Blocks, p.Block, size, e, len(p.Nodes))
		}
	}
}

// P16.4: blocks that do not exist.
func TestProveBadBlocks(t *testing.T) {
	for _, n := range slices.Concat(smallNumbers, []int{64, 257, 1024, 4096}) {
		tree := treeOf(n, where(all))
		for _, block := range badBlocks(n) {
			checkProve(t, tree, block, merkles.Proof{}, api.ErrArg)
		}
	}
}

func badBlocks(n int) []int {
	return []int{-1, -2, -n, n, n + 1, 4097, 1 << 16, 1 << 32, 1<<32 + 1, -1 << 32, 1 - 1<<32, math.MinInt, math.MinInt + 1, math.MaxInt - 1, math.MaxInt}
}

// P16.4: in the tree of 4096 blocks of which one was written, the proofs of blocks that are in an empty subtree at each level, written out.
func TestProveLevels(t *testing.T) {
	for _, x := range []struct{ written, block, nodes int }{
		{0, 0, 6}, {0, 1, 6}, {0, 3, 6}, {0, 4, 5}, {0, 15, 5}, {0, 16, 4}, {0, 63, 4}, {0, 64, 3}, {0, 255, 3}, {0, 256, 2}, {0, 1023, 2}, {0, 1024, 1}, {0, 4095, 1},
		{4095, 4095, 6}, {4095, 4092, 6}, {4095, 4091, 5}, {4095, 4080, 5}, {4095, 4079, 4}, {4095, 4032, 4}, {4095, 4031, 3}, {4095, 3840, 3}, {4095, 3839, 2}, {4095, 3072, 2}, {4095, 3071, 1}, {4095, 0, 1},
	} {
		tree := treeOf(4096, where(func(block, _ int) bool { return block == x.written }))
		p, e := merkles.Prove(tree, x.block)
		if e != api.OK || p.Block != x.block || !slices.Equal(p.Nodes, wholePath(tree, x.block)[:x.nodes]) {
			t.Fatalf("block %d was written: Prove(.., %d) has %d nodes, %d, want %d", x.written, x.block, len(p.Nodes), e, x.nodes)
		}
		want := api.Record{}
		if x.block == x.written {
			want = written(x.block)
		}
		checkVerify(t, 4096, rootOf(tree), p, want, api.OK)
	}
}

// P16.4, P16.5, P16.8: proofs of some blocks of great trees.
func TestProveGreatTrees(t *testing.T) {
	for _, n := range []int{64, 65, 256, 257, 1024, 1025, 4096} {
		for _, f := range []fill{where(none), where(all), where(first), where(last), where(thirds), where(sixteenths)} {
			tree := treeOf(n, f)
			for _, block := range []int{0, 1, 5, n / 3, n / 2, n - 2, n - 1} {
				p := wantProof(tree, block)
				checkProve(t, tree, block, p, api.OK)
				checkVerify(t, n, rootOf(tree), p, f(block, n), api.OK)
				checkMost(t, tree, p)
			}
		}
	}
}

// variants returns lists of nodes that are made from another one: with nodes left out, doubled and exchanged, and with others at the end.
func variants(l []api.Node) [][]api.Node {
	all := [][]api.Node{nil, {}, l, slices.Concat(l, l), append(slices.Clone(l), api.Node{})}
	for i := range l {
		all = append(all, l[:i], l[i:], slices.Concat(l[:i], l[i+1:]), slices.Concat(l[:i+1], l[i:]))
		for j := range i {
			other := slices.Clone(l)
			other[i], other[j] = l[j], l[i]
			all = append(all, other)
		}
	}
	return all
}

// P16.5: proofs with other nodes, other blocks, other roots and other numbers of blocks.
func TestVerifyVariants(t *testing.T) {
	outcomes := map[api.Errno]int{}
	for _, n := range []int{1, 4, 5, 8, 16, 17, 21, 65} {
		for _, f := range []fill{where(none), where(all), where(first), where(last), where(thirds), where(oddGroups)} {
			tree := treeOf(n, f)
			for block := range n {
				if n > 21 && block%5 > 0 {
					continue
				}
				for _, l := range append(variants(wholePath(tree, block)), variants(wantProof(tree, block).Nodes)...) {
					outcomes[verify(t, n, rootOf(tree), merkles.Proof{Block: block, Nodes: l})]++
				}
				checkOthers(t, tree, wantProof(tree, block))
			}
		}
	}
	if outcomes[api.OK] == 0 || outcomes[api.ErrArg] == 0 || outcomes[api.ErrFit] == 0 || outcomes[api.ErrIntegrity] == 0 {
		t.Fatalf("the variants have the outcomes %v only", outcomes)
	}
}

// checkOthers verifies a proof for other blocks, under other roots, and for other numbers of blocks.
func checkOthers(t *testing.T, tree merkles.Tree, p merkles.Proof) {
	t.Helper()
	n, root := tree.Blocks, rootOf(tree)
	for other := range n {
		verify(t, n, root, merkles.Proof{Block: other, Nodes: p.Nodes})
	}
	for _, other := range badBlocks(n) {
		checkVerify(t, n, root, merkles.Proof{Block: other, Nodes: p.Nodes}, api.Record{}, api.ErrArg)
	}
	for _, other := range append([]int{1, 2, 3, 4, 5, 8, 16, 17, 20, 64, 65, 4096}, badNumbers...) {
		verify(t, other, root, p)
	}
	for _, other := range []api.Digest{{}, flipped(root, 0), flipped(root, 100), flipped(root, 255), digestOf(api.Node{}), digestOf(p.Nodes[len(p.Nodes)-1])} {
		verify(t, n, other, p)
	}
}

// P16.5: each bit of the root counts.
func TestVerifyRoots(t *testing.T) {
	for _, n := range []int{1, 5, 4096} {
		tree := treeOf(n, where(all))
		p := wantProof(tree, n/2)
		for bit := range 256 {
			checkVerify(t, n, flipped(rootOf(tree), bit), p, api.Record{}, api.ErrIntegrity)
		}
	}
}

// relink gives the nodes of a proof above a node the digests of those below them, but leaves zero the entries that are, and returns the root.
func relink(p merkles.Proof, from int) api.Digest {
	for i := from - 1; i >= 0; i-- {
		if e := &p.Nodes[i].Entries[turn(int(p.Nodes[i].Level), p.Block)]; *e != (api.Entry{}) {
			e.Digest = digestOf(p.Nodes[i+1])
		}
	}
	return digestOf(p.Nodes[0])
}

// P16.5: each node of a proof with each change, under the root, and under the one that makes it the only fault.
func TestVerifyChanges(t *testing.T) {
	outcomes := map[api.Errno]int{}
	for _, n := range []int{1, 3, 5, 8, 17, 21, 65} {
		for _, f := range []fill{where(none), where(all), where(last), where(thirds)} {
			tree := treeOf(n, f)
			for _, block := range []int{0, n / 2, n - 1} {
				for _, l := range [][]api.Node{wantProof(tree, block).Nodes, wholePath(tree, block)} {
					for i := range l {
						for _, c := range changes() {
							p := merkles.Proof{Block: block, Nodes: slices.Clone(l)}
							c(&p.Nodes[i])
							verify(t, n, rootOf(tree), p)
							outcomes[verify(t, n, relink(p, i), p)]++
						}
					}
				}
			}
		}
	}
	if outcomes[api.OK] == 0 || outcomes[api.ErrFit] == 0 || outcomes[api.ErrIntegrity] == 0 {
		t.Fatalf("the changes have the outcomes %v only", outcomes)
	}
}

// P16.5: the first of two faults counts.
func TestVerifyTwoFaults(t *testing.T) {
	draw, firsts := drawer(3), map[api.Errno]int{}
	for range 12000 {
		n := []int{1, 5, 8, 16, 17, 21, 33, 65}[below(draw, 8)]
		tree := treeOf(n, fills()[below(draw, len(fills()))])
		block := below(draw, tree.Blocks)
		p := merkles.Proof{Block: block, Nodes: wholePath(tree, block)}
		root := rootOf(tree)
		for range 2 {
			i := below(draw, len(p.Nodes))
			drawChange(draw)(&p.Nodes[i])
			// Levels that are beyond those of a volume have no turn that a link could take.
			if below(draw, 2) == 0 && !slices.ContainsFunc(p.Nodes, func(x api.Node) bool { return x.Level > 5 }) {
				root = relink(p, i)
			}
		}
		firsts[verify(t, tree.Blocks, root, p)]++
	}
	if firsts[api.OK] < 100 || firsts[api.ErrFit] < 500 || firsts[api.ErrIntegrity] < 500 {
		t.Fatalf("the faults are not of all kinds: %v", firsts)
	}
}

// P16.5: a proof that ends above the group, and one that goes on, with an entry that is zero and one that is not, written out.
func TestVerifyEnds(t *testing.T) {
	group := api.Node{Index: 2, Records: [4]api.Record{written(8), {}, {}, written(11)}}
	inner := api.Node{Level: 1, Entries: [4]api.Entry{2: {State: 2, Digest: digestOf(group)}}}
	root := api.Node{Level: 2, Entries: [4]api.Entry{{State: 1, Digest: digestOf(inner)}, {State: 1, Digest: ascending(0)}}}
	d := digestOf(root)
	for _, x := range []struct {
		block int
		nodes []api.Node
		want  api.Record
		err   api.Errno
	}{
		{8, []api.Node{root, inner, group}, written(8), api.OK}, {11, []api.Node{root, inner, group}, written(11), api.OK}, {9, []api.Node{root, inner, group}, api.Record{}, api.OK},
		{8, []api.Node{root, inner}, api.Record{}, api.ErrIntegrity}, {8, []api.Node{root}, api.Record{}, api.ErrIntegrity}, {16, []api.Node{root}, api.Record{}, api.ErrIntegrity},
		{0, []api.Node{root, inner}, api.Record{}, api.OK}, {7, []api.Node{root, inner}, api.Record{}, api.OK}, {12, []api.Node{root, inner}, api.Record{}, api.OK}, {32, []api.Node{root}, api.Record{}, api.OK}, {63, []api.Node{root}, api.Record{}, api.OK},
		// The entry above is zero: that counts before anything of the next node.
		{0, []api.Node{root, inner, {}}, api.Record{}, api.ErrIntegrity}, {0, []api.Node{root, inner, {Index: 7}}, api.Record{}, api.ErrIntegrity}, {0, []api.Node{root, inner, {Level: 9}}, api.Record{}, api.ErrIntegrity}, {32, []api.Node{root, {Level: 1, Index: 2}}, api.Record{}, api.ErrIntegrity}, {32, []api.Node{root, {Level: 7}}, api.Record{}, api.ErrIntegrity},
		// The entry above is not zero: what does not fit counts before its digest.
		{8, []api.Node{root, inner, {}}, api.Record{}, api.ErrFit}, {8, []api.Node{root, inner, {Index: 2}}, api.Record{}, api.ErrIntegrity}, {8, []api.Node{root, group, inner}, api.Record{}, api.ErrFit}, {8, []api.Node{root, {Level: 1}, {}}, api.Record{}, api.ErrIntegrity},
	} {
		checkVerify(t, 64, d, merkles.Proof{Block: x.block, Nodes: x.nodes}, x.want, x.err)
	}
	checkVerify(t, 64, digestOf(inner), merkles.Proof{Block: 8, Nodes: []api.Node{inner, group}}, api.Record{}, api.ErrFit)
	checkVerify(t, 64, digestOf(group), merkles.Proof{Block: 8, Nodes: []api.Node{group}}, api.Record{}, api.ErrFit)
	checkVerify(t, 64, flipped(d, 1), merkles.Proof{Block: 8, Nodes: []api.Node{root}}, api.Record{}, api.ErrIntegrity)
}

// P16.5: an entry that is not zero may lead to a group without records, or with a digest of anything: no tree has it, but it is a proof of the zero record.
func TestVerifyStrangeProofs(t *testing.T) {
	group := api.Node{}
	root := api.Node{Level: 1, Entries: [4]api.Entry{{State: 1, Digest: digestOf(group)}, {State: 1, Digest: ascending(0)}}}
	for block := range 4 {
		checkVerify(t, 16, digestOf(root), merkles.Proof{Block: block, Nodes: []api.Node{root, group}}, api.Record{}, api.OK)
	}
	for block := 8; block < 16; block++ {
		checkVerify(t, 16, digestOf(root), merkles.Proof{Block: block, Nodes: []api.Node{root}}, api.Record{}, api.OK)
	}
	// The digest zero is one like any other.
	zero := api.Node{Level: 1, Entries: [4]api.Entry{{State: 1}}}
	checkVerify(t, 16, digestOf(zero), merkles.Proof{Block: 0, Nodes: []api.Node{zero}}, api.Record{}, api.ErrIntegrity)
	checkVerify(t, 16, digestOf(zero), merkles.Proof{Block: 0, Nodes: []api.Node{zero, group}}, api.Record{}, api.ErrIntegrity)
	checkVerify(t, 16, api.Digest{}, merkles.Proof{Block: 0, Nodes: []api.Node{zero}}, api.Record{}, api.ErrIntegrity)
}

// P16.6, P16.8: all pairs of some proofs; those of one block under one root are of the same record, as nobody knows two nodes with the same digest.
func TestCollidePairs(t *testing.T) {
	for _, n := range []int{1, 5, 17} {
		tree := treeOf(n, where(thirds))
		var proofs []merkles.Proof
		for _, block := range []int{0, 1, 2, n / 2, n - 1, -1, n} {
			if block < 0 || block >= n {
				proofs = append(proofs, merkles.Proof{Block: block, Nodes: wholePath(tree, 0)})
				continue
			}
			for _, l := range variants(wholePath(tree, block)) {
				proofs = append(proofs, merkles.Proof{Block: block, Nodes: l})
			}
			changed := copiedProof(wantProof(tree, block))
			changed.Nodes[len(changed.Nodes)-1].Index ^= 1
			proofs = append(proofs, changed, wantProof(tree, block), copiedProof(wantProof(tree, block)))
		}
		for _, root := range []api.Digest{rootOf(tree), flipped(rootOf(tree), 9)} {
			for _, a := range proofs {
				for _, b := range proofs {
					checkNoCollision(t, n, root, a, b, wantCollide(t, n, root, a, b))
				}
			}
		}
		for _, bad := range badNumbers {
			checkNoCollision(t, bad, rootOf(tree), proofs[0], proofs[1], api.ErrArg)
		}
	}
}

func wantCollide(t *testing.T, n int, root api.Digest, a, b merkles.Proof) api.Errno {
	t.Helper()
	r, e1 := wantVerify(n, root, a)
	s, e2 := wantVerify(n, root, b)
	switch {
	case e1 != api.OK:
		return e1
	case e2 != api.OK:
		return e2
	case a.Block != b.Block:
		return api.ErrArg
	case r != s:
		t.Fatalf("a collision: %x and %x", a, b)
	}
	return api.ErrNone
}

// P16.6: the order of the errors, written out.
func TestCollideOrder(t *testing.T) {
	tree := treeOf(21, where(all))
	fine, other := wantProof(tree, 2), wantProof(tree, 3)
	misfit, altered := copiedProof(fine), copiedProof(fine)
	misfit.Nodes[1].Index = 3
	altered.Nodes[2].Records[0].Tag = ascending(9)
	far := merkles.Proof{Block: 21, Nodes: fine.Nodes}
	for _, x := range []struct {
		a, b merkles.Proof
		want api.Errno
	}{
		{fine, fine, api.ErrNone}, {fine, copiedProof(fine), api.ErrNone}, {fine, other, api.ErrArg}, {other, fine, api.ErrArg},
		{misfit, altered, api.ErrFit}, {altered, misfit, api.ErrIntegrity}, {misfit, misfit, api.ErrFit}, {altered, altered, api.ErrIntegrity},
		{misfit, other, api.ErrFit}, {other, misfit, api.ErrFit}, {altered, other, api.ErrIntegrity}, {other, altered, api.ErrIntegrity},
		{far, misfit, api.ErrArg}, {misfit, far, api.ErrFit}, {altered, far, api.ErrIntegrity}, {far, fine, api.ErrArg}, {merkles.Proof{}, misfit, api.ErrArg}, {misfit, merkles.Proof{}, api.ErrFit},
	} {
		checkNoCollision(t, 21, rootOf(tree), x.a, x.b, x.want)
	}
	// Blocks that were never written have the same record, but they are not the same block.
	empty := treeOf(21, where(none))
	checkNoCollision(t, 21, rootOf(empty), wantProof(empty, 2), wantProof(empty, 3), api.ErrArg)
	checkNoCollision(t, 21, rootOf(empty), wantProof(empty, 3), wantProof(empty, 3), api.ErrNone)
}
