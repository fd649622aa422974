package updates_test

import (
	"math"
	"slices"
	"testing"

	"caisson/api"
	"caisson/merkles"
	"caisson/updates"
)

// P18.2: numbers of blocks, and of nodes, that do not go together.
func TestNumbers(t *testing.T) {
	for _, n := range badNumbers {
		for _, count := range []int{0, 1, 3, 1365, 1366} {
			judge(t, updates.Tree{Blocks: n, Nodes: make([]updates.Node, count)})
		}
		for _, m := range []int{1, 5, 4096} {
			tree := stateWith(m, cycle, zeros).tree()
			tree.Blocks = n
			if judge(t, tree) != api.ErrArg {
				t.Fatal(n, m)
			}
		}
	}
	for _, n := range append(slices.Clone(smallNumbers), allNumbers...) {
		for _, m := range []mark{none, cycle} {
			tree := stateWith(n, m, drawnSlots).tree()
			for _, l := range [][]updates.Node{nil, tree.Nodes[:len(tree.Nodes)-1], tree.Nodes[1:], append(slices.Clone(tree.Nodes), updates.Node{}), append(slices.Clone(tree.Nodes), tree.Nodes[len(tree.Nodes)-1]), slices.Concat(tree.Nodes, tree.Nodes)} {
				if e := judge(t, updates.Tree{Blocks: n, Nodes: l}); e != api.ErrArg {
					t.Fatalf("%d blocks, %d nodes: error %d", n, len(l), e)
				}
			}
		}
	}
	// The same number of nodes can be that of several numbers of blocks.
	for _, n := range []int{1, 2, 3, 4, 5, 7, 8, 9, 12, 13} {
		for other := 1; other <= 20; other++ {
			for _, m := range []mark{none, where(1, 0, first), where(3, 0, last), cycle} {
				tree := stateWith(n, m, zeros).tree()
				tree.Blocks = other
				judge(t, tree)
			}
		}
	}
}

// P18.2: a Slot that is none, at each node, and whatever else is wrong.
func TestBadSlots(t *testing.T) {
	for _, n := range []int{1, 4, 5, 17, 21} {
		for _, m := range []mark{none, cycle} {
			for number := range places(n) {
				for _, slot := range badSlots {
					tree := stateWith(n, m, zeros).tree()
					tree.Nodes[number].Slot = slot
					if e := judge(t, tree); e != api.ErrArg {
						t.Fatalf("%d blocks, the Slot %d at %d: error %d", n, slot, number, e)
					}
				}
				for other := range places(n) {
					tree := stateWith(n, m, zeros).tree()
					tree.Nodes[number].Slot = 2
					tree.Nodes[other].Node.Level = 9
					tree.Nodes[len(tree.Nodes)-1-other].Dirty = true
					if e := judge(t, tree); e != api.ErrArg {
						t.Fatalf("%d blocks, the Slot 2 at %d: error %d", n, number, e)
					}
				}
			}
		}
	}
	for _, n := range allNumbers {
		for _, number := range []int{0, len(places(n)) / 2, len(places(n)) - 1} {
			tree := stateWith(n, cycle, ones).tree()
			tree.Nodes[number].Slot = -1
			judge(t, tree)
		}
	}
}

// badRecords are records that are not valid, for each reason.
func badRecords() []api.Record {
	return []api.Record{
		{State: 3}, {State: 255}, {State: 3, Nonce: api.Nonce{Shard: 1, Counter: 2}, Tag: ascending(0)},
		{Nonce: api.Nonce{Shard: 1}}, {Nonce: api.Nonce{Counter: 1}}, {Nonce: api.Nonce{Counter: 1 << 63}}, {Tag: api.Digest{1}}, {Tag: api.Digest{31: 0x80}},
	}
}

// change changes a node; which is the number of a part, and the change may have an effect or not.
type change func(x *updates.Node, which int)

// headChanges change what stands before the parts of a node.
func headChanges() []change {
	return []change{
		func(x *updates.Node, _ int) { x.Node.Level++ },
		func(x *updates.Node, _ int) { x.Node.Level-- },
		func(x *updates.Node, which int) { x.Node.Level = uint8(which) },
		func(x *updates.Node, which int) { x.Node.Level = uint8(which) + 4 },
		func(x *updates.Node, _ int) { x.Node.Index++ },
		func(x *updates.Node, _ int) { x.Node.Index-- },
		func(x *updates.Node, which int) { x.Node.Index = uint32(which) },
		func(x *updates.Node, _ int) { x.Node.Index ^= 1 << 31 },
		func(x *updates.Node, which int) { x.Node = api.Node{Level: uint8(which)} },
		func(x *updates.Node, _ int) { x.Node = api.Node{Level: x.Node.Level, Index: x.Node.Index} },
	}
}

// flagChanges change what there is beside a node: its slot, and its marks.
func flagChanges() []change {
	return []change{
		func(x *updates.Node, _ int) { x.Slot = 1 - x.Slot },
		func(x *updates.Node, which int) { x.Slot = which },
		func(x *updates.Node, _ int) { x.Dirty = !x.Dirty },
		func(x *updates.Node, which int) { x.Changed[which] = !x.Changed[which] },
		func(x *updates.Node, which int) { x.Changed[which], x.Dirty = !x.Changed[which], !x.Dirty },
		func(x *updates.Node, which int) { x.Changed[which], x.Dirty = true, true },
		func(x *updates.Node, _ int) { x.Changed = [4]bool{} },
		func(x *updates.Node, _ int) { x.Changed, x.Dirty = [4]bool{}, false },
		func(x *updates.Node, _ int) { x.Changed = [4]bool{true, true, true, true} },
		func(x *updates.Node, _ int) { x.Changed, x.Dirty = [4]bool{true, true, true, true}, true },
	}
}

// recordChanges change a record of a node, which may be of the wrong kind.
func recordChanges() []change {
	l := []change{
		func(x *updates.Node, which int) { x.Node.Records[which] = api.Record{} },
		func(x *updates.Node, which int) { x.Node.Records[which] = api.Record{State: 1} },
		func(x *updates.Node, which int) { x.Node.Records[which] = recordOf(which+100, 2) },
		func(x *updates.Node, which int) { x.Node.Records[which].State ^= 3 },
		func(x *updates.Node, which int) { x.Node.Records[which].Nonce.Shard ^= 1 },
		func(x *updates.Node, which int) { x.Node.Records[which].Nonce.Counter ^= 1 << 40 },
		func(x *updates.Node, which int) {
			x.Node.Records[which].Tag = flipped(x.Node.Records[which].Tag, 60*which)
		},
		func(x *updates.Node, which int) {
			x.Node.Records[which], x.Changed[which], x.Dirty = recordOf(which+50, 1), true, true
		},
		func(x *updates.Node, which int) { x.Node.Records[which], x.Changed[which] = api.Record{}, false },
	}
	for _, r := range badRecords() {
		l = append(l, func(x *updates.Node, which int) { x.Node.Records[which] = r })
	}
	return l
}

// entryChanges change an entry of a node, which may be of the wrong kind.
func entryChanges() []change {
	return []change{
		func(x *updates.Node, which int) { x.Node.Entries[which] = api.Entry{} },
		func(x *updates.Node, which int) { x.Node.Entries[which] = api.Entry{State: 1} },
		func(x *updates.Node, which int) {
			x.Node.Entries[which] = api.Entry{State: 2, Digest: ascending(which)}
		},
		func(x *updates.Node, which int) {
			x.Node.Entries[which] = api.Entry{State: 3, Digest: ascending(which)}
		},
		func(x *updates.Node, which int) { x.Node.Entries[which] = api.Entry{Digest: ascending(which)} },
		func(x *updates.Node, which int) { x.Node.Entries[which].State ^= 3 },
		func(x *updates.Node, which int) { x.Node.Entries[which].State = 0 },
		func(x *updates.Node, which int) { x.Node.Entries[which].State += 3 },
		func(x *updates.Node, which int) {
			x.Node.Entries[which].Digest = flipped(x.Node.Entries[which].Digest, 80*which)
		},
		func(x *updates.Node, which int) {
			x.Node.Entries[which].Digest = flipped(x.Node.Entries[which].Digest, 255-80*which)
		},
		func(x *updates.Node, which int) {
			x.Node.Entries[which], x.Node.Entries[(which+1)%4] = x.Node.Entries[(which+1)%4], x.Node.Entries[which]
		},
		func(x *updates.Node, which int) {
			child := api.Node{Level: x.Node.Level - 1, Index: 4*x.Node.Index + uint32(which)}
			x.Node.Entries[which] = api.Entry{State: 1, Digest: digestOf(child)}
		},
	}
}

func changes() []change {
	return slices.Concat(headChanges(), flagChanges(), recordChanges(), entryChanges())
}

// relink gives the nodes behind a number the entries of their children, and makes them dirty if these are: so what is wrong at the number is the only fault.
func relink(tree updates.Tree, from int) {
	for number, p := range places(tree.Blocks) {
		if p.Level == 0 || number <= from {
			continue
		}
		x := &tree.Nodes[number]
		dirty := false
		for which := range partsOf(tree.Blocks, p) {
			y := tree.Nodes[numberOf(tree.Blocks, place(p.Level-1, 4*p.Index+which))]
			dirty = dirty || y.Dirty
			x.Node.Entries[which] = api.Entry{}
			if y.Node != (api.Node{Level: y.Node.Level, Index: y.Node.Index}) {
				x.Node.Entries[which] = api.Entry{State: uint8(1 + y.Slot), Digest: digestOf(y.Node)}
				if y.Dirty {
					x.Node.Entries[which].State = uint8(2 - y.Slot)
				}
			}
		}
		x.Dirty = dirty
	}
}

// P18.2: each node of a tree with each change, with what is above it as it was, and as it has to be then.
func TestChanges(t *testing.T) {
	t.Parallel()
	outcomes := map[api.Errno]int{}
	for _, n := range []int{1, 3, 5, 8, 21} {
		for _, m := range []mark{none, cycle, where(1, 0, all), where(4, 2, first), where(3, 0, oddGroups)} {
			for number := range places(n) {
				for i, c := range changes() {
					for which := range 4 {
						tree := stateWith(n, m, slotRules()[(i+which)%5]).tree()
						c(&tree.Nodes[number], which)
						outcomes[judge(t, tree)]++
						before := copied(tree)
						if relink(tree, number); !same(tree, before) {
							outcomes[judge(t, tree)]++
						}
					}
				}
			}
		}
	}
	if outcomes[api.OK] < 1000 || outcomes[api.ErrArg] < 100 || outcomes[api.ErrFit] < 1000 || outcomes[api.ErrIntegrity] < 1000 {
		t.Fatalf("the changes have the outcomes %v", outcomes)
	}
}

// P18.2: the first one of several faults counts.
func TestTwoFaults(t *testing.T) {
	t.Parallel()
	draw, outcomes := drawer(2), map[api.Errno]int{}
	for range 20000 {
		n := []int{1, 4, 5, 8, 16, 17, 21, 33}[draw(8)]
		tree := stateWith(n, marks()[draw(len(marks()))], slotRules()[draw(5)]).tree()
		for range 2 + draw(2) {
			number := draw(len(tree.Nodes))
			changes()[draw(len(changes()))](&tree.Nodes[number], draw(4))
			if draw(2) == 0 {
				relink(tree, number)
			}
		}
		outcomes[judge(t, tree)]++
	}
	if outcomes[api.OK] < 100 || outcomes[api.ErrArg] < 100 || outcomes[api.ErrFit] < 1000 || outcomes[api.ErrIntegrity] < 1000 {
		t.Fatalf("the faults have the outcomes %v", outcomes)
	}
}

// P18.2: faults of two nodes, written out: that of the node with the lower number counts, whatever kind it is.
func TestFirstNode(t *testing.T) {
	misfit := func(x *updates.Node) { x.Node.Index += 9 }
	marked := func(x *updates.Node) { x.Dirty = !x.Dirty }
	cut := func(x *updates.Node) { x.Node.Entries[0].Digest[5]++ }
	s := stateWith(21, where(1, 0, all), zeros)
	for low := range 9 {
		for high := low + 1; high < 9; high++ {
			for _, x := range []struct {
				first, second func(*updates.Node)
				want          api.Errno
			}{{misfit, marked, api.ErrFit}, {misfit, misfit, api.ErrFit}, {marked, misfit, api.ErrIntegrity}, {marked, marked, api.ErrIntegrity}, {cut, misfit, api.ErrIntegrity}, {misfit, cut, api.ErrFit}} {
				tree := s.tree()
				x.second(&tree.Nodes[high])
				x.first(&tree.Nodes[low])
				want := x.want
				// A group has no entries, so that one does not fit.
				if low < 6 && x.want == api.ErrIntegrity && tree.Nodes[low].Node.Entries[0] != (api.Entry{}) {
					want = api.ErrFit
				}
				checkCheck(t, tree, want)
				judge(t, tree)
			}
		}
		// One node with two faults: that it does not fit counts first.
		tree := s.tree()
		marked(&tree.Nodes[low])
		misfit(&tree.Nodes[low])
		checkCheck(t, tree, api.ErrFit)
	}
}

// P18.2: marks of records that do not exist, that were never written, and of nodes that are no groups.
func TestMarks(t *testing.T) {
	for _, n := range []int{1, 2, 3, 5, 6, 17, 21} {
		s := stateWith(n, where(1, 0, func(block, _ int) bool { return block%2 == 0 }), alternating)
		for number, p := range places(n) {
			for which := range 4 {
				tree := s.tree()
				tree.Nodes[number].Changed[which] = true
				checkCheck(t, tree, api.ErrIntegrity)
				tree.Nodes[number].Dirty = true
				relink(tree, number)
				want := api.ErrIntegrity
				if p.Level == 0 && 4*p.Index+which < n && which%2 == 0 {
					want = api.OK
				}
				checkCheck(t, tree, want)
				judge(t, tree)
			}
			tree := s.tree()
			tree.Nodes[number].Dirty = true
			checkCheck(t, tree, api.ErrIntegrity)
			relink(tree, number)
			checkCheck(t, tree, api.ErrIntegrity)
		}
		// A dirty child is part of a dirty node.
		dirty := stateWith(n, where(3, 0, all), alternating)
		for number := range places(n) {
			tree := dirty.tree()
			tree.Nodes[number].Dirty = false
			checkCheck(t, tree, api.ErrIntegrity)
			relink(tree, number)
			checkCheck(t, tree, api.ErrIntegrity)
		}
	}
}

// P18.2: entries of nodes that are dirty and that are not, in both States.
func TestStates(t *testing.T) {
	for _, n := range []int{5, 17, 21, 64} {
		for _, m := range []mark{where(1, 0, all), where(3, 0, all), cycle, where(4, 2, oddGroups)} {
			s := stateWith(n, m, drawnSlots)
			for number, p := range places(n) {
				for which := range 4 {
					if p.Level == 0 || which >= partsOf(n, p) || s.isEmpty(place(p.Level-1, 4*p.Index+which)) {
						continue
					}
					tree := s.tree()
					tree.Nodes[number].Node.Entries[which].State ^= 3
					relink(tree, number)
					checkCheck(t, tree, api.ErrIntegrity)
					// With the other slot of the child the same entry would be right.
					child := numberOf(n, place(p.Level-1, 4*p.Index+which))
					tree.Nodes[child].Slot = 1 - tree.Nodes[child].Slot
					checkCheck(t, tree, api.OK)
					judge(t, tree)
				}
			}
		}
	}
}

// sources returns a tree and its slots, in memory of their own.
func sources(s state) (merkles.Tree, []int) {
	t, slots := s.merkle()
	return merkles.Tree{Blocks: t.Blocks, Nodes: slices.Clone(t.Nodes)}, slices.Clone(slots)
}

// of checks Of against the definition, and returns the error.
func of(t *testing.T, tree merkles.Tree, slots []int) api.Errno {
	t.Helper()
	want, err := wantOf(tree, slots)
	checkOf(t, tree, slots, want, err)
	return err
}

// unchangedMarks are the marks with which nothing is changed.
func unchangedMarks() []mark {
	return []mark{none, where(1, 0, all), where(2, 0, first), where(1, 0, last), where(2, 1, thirds), where(1, 0, oddGroups), where(2, 0, upperHalf), func(block, _ int) int { return block % 3 }}
}

// P18.1: trees of all kinds; the slot of the root, and those of nodes without a record, do not have to be those of an entry.
func TestOf(t *testing.T) {
	for _, n := range append([]int{64, 65, 256, 257, 1024, 1025, 4096}, smallNumbers...) {
		for i, m := range unchangedMarks() {
			s := stateWith(n, m, slotRules()[i%5])
			tree, slots := sources(s)
			checkOf(t, tree, slots, s.tree(), api.OK)
			if n > 70 {
				continue
			}
			judge(t, s.tree())
			for number, p := range places(n) {
				slots[number] = 1 - slots[number]
				free := p.Level == heightOf(n) || s.isEmpty(p)
				if e := of(t, tree, slots); (e == api.OK) != free || e != api.OK && e != api.ErrIntegrity {
					t.Fatalf("%d blocks: the other slot at %v has the error %d", n, p, e)
				}
				slots[number] = 1 - slots[number]
			}
		}
	}
}

// P18.1: numbers of slots that are not those of the places, and slots that are none.
func TestOfBadSlots(t *testing.T) {
	for _, n := range append([]int{64, 1025, 4096}, smallNumbers...) {
		for _, m := range []mark{none, where(1, 0, all)} {
			tree, slots := sources(stateWith(n, m, alternating))
			for _, l := range [][]int{nil, slots[:len(slots)-1], slots[1:], append(slices.Clone(slots), 0), append(slices.Clone(slots), 1, 0), slices.Concat(slots, slots)} {
				checkOf(t, tree, l, updates.Tree{}, api.ErrArg)
			}
			for number := range slots {
				if n > 70 && number%97 > 0 {
					continue
				}
				for _, bad := range badSlots[:min(len(badSlots), 1000/n+1)] {
					l := slices.Clone(slots)
					l[number] = bad
					checkOf(t, tree, l, updates.Tree{}, api.ErrArg)
					// Other slots, and other States, count only behind that.
					for i := range l {
						if i != number {
							l[i] = 1 - l[i]
						}
					}
					checkOf(t, tree, l, updates.Tree{}, api.ErrArg)
				}
			}
		}
	}
}

// P18.1: trees that merkles.Check refuses, with slots of all kinds.
func TestOfBadTrees(t *testing.T) {
	t.Parallel()
	for _, n := range badNumbers {
		for _, count := range []int{0, 1, 3, 1365, 1366} {
			checkOf(t, merkles.Tree{Blocks: n, Nodes: make([]api.Node, count)}, make([]int, count), updates.Tree{}, api.ErrArg)
		}
	}
	for _, n := range []int{1, 4, 5, 16, 17, 64} {
		tree, slots := sources(stateWith(n, where(1, 0, all), zeros))
		for _, l := range [][]api.Node{nil, tree.Nodes[1:], tree.Nodes[:len(tree.Nodes)-1], append(slices.Clone(tree.Nodes), api.Node{}), slices.Concat(tree.Nodes, tree.Nodes)} {
			checkOf(t, merkles.Tree{Blocks: n, Nodes: l}, slots, updates.Tree{}, api.ErrArg)
			checkOf(t, merkles.Tree{Blocks: n, Nodes: l}, make([]int, len(l)), updates.Tree{}, api.ErrArg)
		}
	}
	outcomes := map[api.Errno]int{}
	for _, n := range []int{1, 3, 5, 8, 17, 21} {
		for _, m := range unchangedMarks() {
			for number := range places(n) {
				for i, c := range slices.Concat(headChanges(), recordChanges(), entryChanges()) {
					tree, slots := sources(stateWith(n, m, slotRules()[i%5]))
					x := updates.Node{Node: tree.Nodes[number]}
					c(&x, i%4)
					tree.Nodes[number] = x.Node
					outcomes[of(t, tree, slots)]++
					// The error of merkles.Check counts before that of the slots.
					for _, bad := range [][]int{nil, slots[1:], append(slices.Clone(slots), 0), slices.Concat([]int{2}, slots[1:])} {
						want := wantMerkle(tree)
						if want == api.OK {
							want = api.ErrArg
						}
						checkOf(t, tree, bad, updates.Tree{}, want)
					}
				}
			}
		}
	}
	if outcomes[api.OK] < 100 || outcomes[api.ErrFit] < 100 || outcomes[api.ErrIntegrity] < 100 {
		t.Fatalf("the changes have the outcomes %v", outcomes)
	}
}

// P18.1: what is refused, written out.
func TestOfWrittenOut(t *testing.T) {
	r := recordOf(0, 1)
	group := api.Node{Records: [4]api.Record{r}}
	root := api.Node{Level: 1, Entries: [4]api.Entry{{State: 2, Digest: digestOf(group)}}}
	tree := merkles.Tree{Blocks: 5, Nodes: []api.Node{group, {Index: 1}, root}}
	for _, x := range []struct {
		slots []int
		want  api.Errno
	}{
		{[]int{1, 0, 0}, api.OK}, {[]int{1, 1, 1}, api.OK}, {[]int{1, 0, 1}, api.OK}, {[]int{0, 0, 0}, api.ErrIntegrity}, {[]int{0, 1, 1}, api.ErrIntegrity},
		{[]int{1, 0}, api.ErrArg}, {[]int{1, 0, 0, 0}, api.ErrArg}, {[]int{0, 0}, api.ErrArg}, {nil, api.ErrArg},
		{[]int{1, 2, 0}, api.ErrArg}, {[]int{1, 0, 2}, api.ErrArg}, {[]int{2, 0, 0}, api.ErrArg}, {[]int{0, -1, 0}, api.ErrArg}, {[]int{0, 0, math.MaxInt}, api.ErrArg},
	} {
		if e := of(t, tree, x.slots); e != x.want {
			t.Fatalf("Of(.., %v) has the error %d, want %d", x.slots, e, x.want)
		}
	}
}
