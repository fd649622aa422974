package commits_test

import (
	"math"
	"slices"
	"testing"

	"caisson/api"
	"caisson/commits"
	"caisson/disks"
	"caisson/updates"
)

// refuse checks that all functions that take a tree return the error of one that is not valid, and nothing else, whatever else they are given.
func refuse(t *testing.T, tree updates.Tree, err api.Errno) {
	t.Helper()
	if e := updates.Check(tree); e != err {
		t.Fatalf("Check(%s) = %d, want %d", show(tree), e, err)
	}
	checkKept(t, tree, nil, err)
	for _, epoch := range []uint64{0, 1, math.MaxUint64 - 1, math.MaxUint64} {
		checkPlan(t, tree, api.Cell{Root: api.Digest{1}, Epoch: epoch, Mark: 7}, nil, api.Cell{}, err)
	}
	refusePut(t, tree, []int{0, -1, tree.Blocks - 1, tree.Blocks, 4095, 4096, math.MinInt, math.MaxInt}, err)
}

// P19.1, P19.2, P19.4: numbers of blocks, and of nodes, that do not go together.
func TestNumbers(t *testing.T) {
	for _, n := range badNumbers {
		for _, count := range []int{0, 1, 3, 1365, 1366} {
			refuse(t, updates.Tree{Blocks: n, Nodes: make([]updates.Node, count)}, api.ErrArg)
		}
		for _, m := range []int{1, 5, 65} {
			tree := stateWith(m, cycle, zeros).tree()
			tree.Blocks = n
			refuse(t, tree, api.ErrArg)
		}
	}
	refuse(t, updates.Tree{}, api.ErrArg)
	for _, n := range append(slices.Clone(smallNumbers), 64, 65, 256, 4096) {
		tree := stateWith(n, cycle, drawnSlots).tree()
		for _, l := range [][]updates.Node{nil, tree.Nodes[:len(tree.Nodes)-1], tree.Nodes[1:], append(slices.Clone(tree.Nodes), updates.Node{}), slices.Concat(tree.Nodes, tree.Nodes)} {
			refuse(t, updates.Tree{Blocks: n, Nodes: l}, api.ErrArg)
		}
	}
}

// P19.1, P19.2, P19.4: slots that are none, at each place.
func TestBadSlots(t *testing.T) {
	for _, n := range []int{1, 4, 5, 16, 17, 64, 65} {
		for number := range places(n) {
			for _, slot := range badSlots {
				if n > 20 && number%7 > 0 && slot != 2 {
					continue
				}
				tree := stateWith(n, cycle, alternating).tree()
				tree.Nodes[number].Slot = slot
				refuse(t, tree, api.ErrArg)
			}
		}
	}
}

// misfits change a node so that it does not fit its place; which is a part that does not exist, or 4.
func misfits(level, which int) []func(x *updates.Node) {
	l := []func(x *updates.Node){
		func(x *updates.Node) { x.Node.Level++ },
		func(x *updates.Node) { x.Node.Level = 77 },
		func(x *updates.Node) { x.Node.Index++ },
		func(x *updates.Node) { x.Node.Index ^= 1 << 31 },
	}
	part := min(which, 3)
	if level > 0 || which < 4 {
		l = append(l, func(x *updates.Node) { x.Node.Records[part] = api.Record{State: 1} })
	}
	if level == 0 || which < 4 {
		l = append(l, func(x *updates.Node) { x.Node.Entries[part] = api.Entry{State: 1} })
	}
	if level == 0 {
		return append(l,
			func(x *updates.Node) { x.Node.Records[0].State = 3 },
			func(x *updates.Node) { x.Node.Records[0] = api.Record{Tag: api.Digest{5}} },
			func(x *updates.Node) { x.Node.Records[0] = api.Record{Nonce: api.Nonce{Counter: 1}} })
	}
	return append(l,
		func(x *updates.Node) { x.Node.Entries[0].State = 3 },
		func(x *updates.Node) { x.Node.Entries[0] = api.Entry{Digest: api.Digest{5}} })
}

// P19.1, P19.2, P19.4: nodes that do not fit their places, each alone and before other faults.
func TestMisfits(t *testing.T) {
	for _, n := range []int{1, 3, 4, 5, 16, 17, 64, 65} {
		for number, p := range places(n) {
			if n > 20 && p.Level == 0 && number%5 > 0 {
				continue
			}
			for _, change := range misfits(p.Level, partsOf(n, p)) {
				for _, m := range []mark{none, cycle, where(3, 1, all)} {
					tree := stateWith(n, m, eachThird).tree()
					change(&tree.Nodes[number])
					refuse(t, tree, api.ErrFit)
					for later := number; later < len(tree.Nodes); later++ {
						tree.Nodes[later].Dirty = !tree.Nodes[later].Dirty
					}
					refuse(t, tree, api.ErrFit)
				}
			}
		}
	}
}

// P19.1, P19.2, P19.4: nodes whose marks, or whose entries, are not as they have to be, each alone and before other faults.
func TestBadMarks(t *testing.T) {
	for _, n := range []int{1, 3, 4, 5, 16, 17, 64, 65} {
		for number, p := range places(n) {
			if n > 20 && p.Level == 0 && number%5 > 0 {
				continue
			}
			for _, m := range []mark{none, where(1, 0, all), where(4, 0, all), where(4, 2, thirds)} {
				for _, change := range []func(x *updates.Node) bool{
					func(x *updates.Node) bool { x.Dirty = !x.Dirty; return true },
					func(x *updates.Node) bool {
						// A mark of a record that was never written, that does not exist, or that is no part of this node.
						unmarked := x.Node.Records[3].State == 0
						x.Changed[3], x.Dirty = true, true
						return unmarked
					},
					func(x *updates.Node) bool {
						x.Node.Entries[0].Digest[9]++
						return p.Level > 0 && x.Node.Entries[0].State > 0
					},
					func(x *updates.Node) bool {
						x.Node.Entries[0].State ^= 3
						return p.Level > 0 && x.Node.Entries[0].Digest != api.Digest{}
					},
					func(x *updates.Node) bool {
						some := x.Node.Entries[0] != api.Entry{}
						x.Node.Entries[0] = api.Entry{}
						return some
					},
				} {
					tree := stateWith(n, m, drawnSlots).tree()
					if !change(&tree.Nodes[number]) {
						continue
					}
					refuse(t, tree, api.ErrIntegrity)
					for later := number + 1; later < len(tree.Nodes); later++ {
						tree.Nodes[later].Node.Index += 9
					}
					refuse(t, tree, api.ErrIntegrity)
				}
			}
		}
	}
}

// diskWith returns a disk of some sectors with some contents, some of which are absent again.
func diskWith(t *testing.T, size int) disks.Disk {
	t.Helper()
	d, e := disks.New(size)
	for sector := 0; sector < size && e == api.OK; sector++ {
		for k := 0; k < sector%3 && e == api.OK; k++ {
			d, e = d.Write(sector, []byte{byte(sector), byte(k)})
		}
		if sector%5 == 4 && e == api.OK {
			d, e = d.Erase(sector)
		}
	}
	if e != api.OK {
		t.Fatalf("a disk of %d sectors: error %d", size, e)
	}
	return d
}

// tries checks Apply for a list with all numbers of writes around those from which on its error is another one: bad is the first write that is refused, or the number of writes.
func tries(t *testing.T, d disks.Disk, l []commits.Write, bad int, err api.Errno) {
	t.Helper()
	for _, k := range []int{-1, -2, -len(l), len(l) + 1, len(l) + 2, -1 << 32, 1 << 32, math.MinInt, math.MaxInt} {
		if k < 0 || k > len(l) {
			checkApply(t, d, l, k, api.ErrArg)
		}
	}
	for k := range len(l) + 1 {
		if k <= bad {
			checkApply(t, d, l, k, api.OK)
		} else {
			checkApply(t, d, l, k, err)
		}
	}
}

// listOf returns writes of some sectors, each of other bytes than the others.
func listOf(sectors ...int) []commits.Write {
	var l []commits.Write
	for i, sector := range sectors {
		b := make([]byte, i%5*8)
		fill(b, byte(i+1))
		l = append(l, commits.Write{Sector: sector, Bytes: b})
	}
	return l
}

// P19.3: lists of all kinds, also without writes, with several writes of one sector and with the same bytes again.
func TestApply(t *testing.T) {
	for _, size := range []int{1, 2, 5, 16, 63, 64, 65, 200} {
		d := diskWith(t, size)
		last := size - 1
		for _, l := range [][]commits.Write{nil, {}, listOf(0), listOf(last), listOf(0, last), listOf(last, 0, last, 0), listOf(0, 0, 0, 0, 0, 0, 0), {{Sector: last, Bytes: []byte{7}}, {Sector: last, Bytes: []byte{7}}, {Sector: 0, Bytes: []byte{7}}, {Sector: last}}, {{Sector: last / 2, Bytes: make([]byte, 256)}, {Sector: last / 2, Bytes: make([]byte, 255)}}} {
			tries(t, d, l, len(l), api.OK)
		}
	}
	draw := drawer(3)
	for size := 1; size < 120; size += 13 {
		d := diskWith(t, size)
		for count := range 12 {
			var sectors []int
			for range count {
				sectors = append(sectors, draw(size))
			}
			tries(t, d, listOf(sectors...), count, api.OK)
		}
	}
}

// P19.3: the first write that is refused, and what is behind it.
func TestApplyRefused(t *testing.T) {
	for _, size := range []int{1, 2, 64, 70} {
		d := diskWith(t, size)
		last := size - 1
		for _, x := range []struct {
			write commits.Write
			err   api.Errno
		}{
			{commits.Write{Sector: -1}, api.ErrArg}, {commits.Write{Sector: size}, api.ErrArg}, {commits.Write{Sector: size + 1}, api.ErrArg}, {commits.Write{Sector: math.MinInt}, api.ErrArg}, {commits.Write{Sector: math.MaxInt}, api.ErrArg}, {commits.Write{Sector: 1 << 32}, api.ErrArg},
			{commits.Write{Bytes: make([]byte, 257)}, api.ErrLimit}, {commits.Write{Sector: last, Bytes: make([]byte, 1000)}, api.ErrLimit}, {commits.Write{Sector: size, Bytes: make([]byte, 257)}, api.ErrArg}, {commits.Write{Sector: -1, Bytes: make([]byte, 257)}, api.ErrArg},
		} {
			for before := range 4 {
				l := append(listOf(0, last, 0, last)[:before:before], x.write)
				tries(t, d, l, before, x.err)
				tries(t, d, append(slices.Clone(l), listOf(0, last)...), before, x.err)
				// Of two that are refused the first one counts.
				tries(t, d, append(slices.Clone(l), commits.Write{Sector: -1}), before, x.err)
				tries(t, d, append(slices.Clone(l), commits.Write{Bytes: make([]byte, 257)}), before, x.err)
			}
		}
	}
}

// P19.3: the zero disk has no sectors, so that it refuses each write.
func TestApplyZeroDisk(t *testing.T) {
	tries(t, disks.Disk{}, nil, 0, api.OK)
	tries(t, disks.Disk{}, listOf(0), 0, api.ErrArg)
	tries(t, disks.Disk{}, []commits.Write{{Bytes: make([]byte, 257)}, {Sector: 1}}, 0, api.ErrArg)
}

// P19.3: the beginnings of a plan, and disks that its sectors do not fit on.
func TestApplyPlans(t *testing.T) {
	for _, n := range []int{1, 4, 5, 16, 17, 64, 65} {
		for _, m := range []mark{none, where(3, 0, all), where(4, 1, thirds)} {
			s := stateWith(n, m, drawnSlots)
			l, _, e := commits.Plan(s.tree(), api.Cell{Epoch: uint64(s.rootSlot())})
			if e != api.OK {
				t.Fatal(e)
			}
			tries(t, diskWith(t, sizeOf(n)), l, len(l), api.OK)
			root := l[len(l)-1].Sector
			tries(t, diskWith(t, root), l, len(l)-1, api.ErrArg)
		}
	}
}
