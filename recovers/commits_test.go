package recovers_test

import (
	"slices"
	"testing"

	"caisson/api"
	"caisson/commits"
	"caisson/disks"
	"caisson/loads"
	"caisson/recovers"
	"caisson/updates"
)

// session is a volume that began as a fresh one, and what was put into it.
type session struct {
	n         int
	disk      disks.Disk
	cell      api.Cell
	committed updates.Tree
	durable   []api.Block // what the blocks were at the last commit

	tree updates.Tree
	data []commits.Write // of what was put, not on the disk yet
	now  []api.Block
	puts int
}

func begin(t *testing.T, n int) *session {
	t.Helper()
	d, c, e := recovers.Fresh(n)
	if e != api.OK {
		t.Fatal(e)
	}
	w, p, e := recovers.Working(n, d, c)
	if e != api.OK || p != (loads.Problem{}) {
		t.Fatalf("the fresh volume of %d blocks: %v, %d", n, p, e)
	}
	return &session{n: n, disk: d, cell: c, committed: w, tree: w, durable: make([]api.Block, n), now: make([]api.Block, n)}
}

// recovers checks that a disk under a cell contains a tree and blocks.
func (s *session) recovers(t *testing.T, d disks.Disk, c api.Cell, want updates.Tree, blocks []api.Block) {
	t.Helper()
	l, at, e := recovers.All(s.n, d, c, keysOf(1, 2))
	if !slices.Equal(l, blocks) || at != 0 || e != api.OK {
		t.Fatalf("%d blocks, epoch %d: the blocks are %v, %d, %d, want %v", s.n, c.Epoch, l, at, e, blocks)
	}
	w, p, e := recovers.Working(s.n, d, c)
	if w.Blocks != s.n || !slices.Equal(w.Nodes, want.Nodes) || p != (loads.Problem{}) || e != api.OK {
		t.Fatalf("%d blocks, epoch %d: the working tree is %v, %v, %d, want %v", s.n, c.Epoch, w, p, e, want)
	}
}

func (s *session) put(t *testing.T, block int) {
	t.Helper()
	s.puts++
	plain := plainOf(s.puts, block)
	made, w, e := commits.Put(s.tree, keysOf(1, 2), block, api.Nonce{Shard: 1, Counter: uint64(s.puts)}, plain)
	if e != api.OK {
		t.Fatal(e)
	}
	s.tree, s.data, s.now = made, append(s.data, w), slices.Clone(s.now)
	s.now[block] = plain
}

// applied returns the disk after the first of all writes that are to be done.
func (s *session) applied(t *testing.T, l []commits.Write, k int) disks.Disk {
	t.Helper()
	d, e := commits.Apply(s.disk, l, k)
	if e != api.OK {
		t.Fatal(e)
	}
	return d
}

// commit carries out what is to be written, and crashes in between if it is told so. In any case the volume is there after each beginning of it.
func (s *session) commit(t *testing.T, draw func(int) int) {
	t.Helper()
	plan, next, e := commits.Plan(s.tree, s.cell)
	if e != api.OK {
		t.Fatal(e)
	}
	l := slices.Concat(s.data, plan)
	for k := draw(2); k <= len(l); k += 1 + draw(3) {
		s.recovers(t, s.applied(t, l, k), s.cell, s.committed, s.durable)
	}
	if s.data = nil; draw(3) == 0 {
		s.disk = s.applied(t, l, draw(len(l)+1))
		s.tree, s.now = s.committed, s.durable
		s.recovers(t, s.disk, s.cell, s.committed, s.durable)
		return
	}
	s.disk, s.cell = s.applied(t, l, len(l)), next
	if s.tree, e = updates.Publish(s.tree); e != api.OK {
		t.Fatal(e)
	}
	s.committed, s.durable = s.tree, s.now
	s.recovers(t, s.disk, s.cell, s.committed, s.durable)
}

// P20.2 to P20.6: volumes that go on from a fresh one, through commits and crashes: what is recovered is what was committed.
func TestCommits(t *testing.T) {
	t.Parallel()
	draw := drawer(20)
	for _, n := range []int{1, 2, 4, 5, 16, 17, 21, 64, 65} {
		for range 3 {
			s := begin(t, n)
			for range 12 {
				for range draw(7) {
					s.put(t, draw(n))
				}
				s.commit(t, draw)
			}
			if s.cell.Epoch < 3 || s.cell.Mark != 0 {
				t.Fatalf("%d blocks: the cell is %v", n, s.cell)
			}
		}
	}
}

// P20.3 to P20.5: after a commit, everything that is needed and one sector of which is lost is told, and a replay of it is found out.
func TestReplays(t *testing.T) {
	t.Parallel()
	for _, n := range []int{1, 5, 17} {
		s := begin(t, n)
		for round := range 6 {
			for block := range n {
				if round < 3 || block%2 == round%2 {
					s.put(t, block)
				}
			}
			s.commit(t, func(int) int { return 1 })
		}
		l, at, e := recovers.All(n, s.disk, s.cell, keysOf(1, 2))
		if !slices.Equal(l, s.now) || at != 0 || e != api.OK || s.cell.Epoch != 6 {
			t.Fatal(l, at, e, s.cell)
		}
		kept, e := commits.Kept(s.tree)
		if e != api.OK {
			t.Fatal(e)
		}
		for _, sector := range s.disk.Present() {
			v := volume{n: n, cell: s.cell, keys: keysOf(1, 2)}
			if v.disk, e = s.disk.Replay(sector, 1); e != api.OK {
				t.Fatal(e)
			}
			v.sectors = contentsOf(t, v.disk)
			r := v.want()
			if (len(r.lost) > 0) != slices.Contains(kept, sector) {
				t.Fatalf("%d blocks: after a replay of the sector %d the blocks %v are lost; the kept sectors are %v", n, sector, r.lost, kept)
			}
			v.check(t, r)
		}
	}
}
