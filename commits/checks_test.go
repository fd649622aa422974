package commits_test

import (
	"bytes"
	"slices"
	"strconv"
	"testing"

	"caisson/api"
	"caisson/commits"
	"caisson/derives"
	"caisson/disks"
	"caisson/updates"
)

// The checks call a function and compare what it returns with what has to come, its memory included. Twice: then they overwrite what came, and after that what they passed, so that memory that both share would be seen.

func same(a, b updates.Tree) bool { return a.Blocks == b.Blocks && slices.Equal(a.Nodes, b.Nodes) }

// copied returns a tree that shares no memory with another one.
func copied(t updates.Tree) updates.Tree {
	return updates.Tree{Blocks: t.Blocks, Nodes: slices.Clone(t.Nodes)}
}

// show returns what is worth saying of a tree: that and all its nodes would be too much.
func show(t updates.Tree) string {
	text := strconv.Itoa(t.Blocks) + " blocks, nodes:"
	for _, x := range t.Nodes[:min(len(t.Nodes), 8)] {
		text += " (" + strconv.Itoa(int(x.Node.Level)) + " " + strconv.Itoa(int(x.Node.Index)) + " slot " + strconv.Itoa(x.Slot) + " " + strconv.FormatBool(x.Dirty) + ")"
	}
	return text
}

// spoil overwrites the nodes of a tree.
func spoil(t updates.Tree) {
	for i := range t.Nodes {
		t.Nodes[i] = updates.Node{Node: api.Node{Level: 77, Index: 78}, Slot: 79, Dirty: true}
	}
}

func fill(b []byte, value byte) {
	for i := range b {
		b[i] = value
	}
}

func sameWrite(a, b commits.Write) bool { return a.Sector == b.Sector && bytes.Equal(a.Bytes, b.Bytes) }

func cloned(l []commits.Write) []commits.Write {
	made := slices.Clone(l)
	for i := range made {
		made[i].Bytes = slices.Clone(made[i].Bytes)
	}
	return made
}

// unchanged checks that a call has not changed a tree.
func unchanged(t *testing.T, what string, tree, before updates.Tree) {
	t.Helper()
	if !same(tree, before) {
		t.Fatalf("%s made the tree %s from %s", what, show(tree), show(before))
	}
}

// compareList checks that a list is the one that has to come, without spare capacity.
func compareList[T comparable](t *testing.T, what string, got []T, e api.Errno, want []T, err api.Errno) {
	t.Helper()
	if !slices.Equal(got, want) || e != err || cap(got) != len(got) {
		t.Fatalf("%s = %v, %d with room for %d, want %v, %d", what, got, e, cap(got), want, err)
	}
}

// checkPut checks what Put returns, and returns it.
func checkPut(t *testing.T, tree updates.Tree, k derives.Keys, block int, n api.Nonce, plain api.Block, want updates.Tree, write commits.Write, err api.Errno) (updates.Tree, commits.Write) {
	t.Helper()
	compare := func(got updates.Tree, w commits.Write, e api.Errno) {
		t.Helper()
		if !same(got, want) || cap(got.Nodes) != len(got.Nodes) || !sameWrite(w, write) || cap(w.Bytes) != len(w.Bytes) || e != err {
			t.Fatalf("Put(%s, %d, %v) = %s, %v, %d, want %s, %v, %d", show(tree), block, n, show(got), w, e, show(want), write, err)
		}
	}
	before := copied(tree)
	got, w, e := commits.Put(tree, k, block, n, plain)
	compare(got, w, e)
	spoil(got)
	fill(w.Bytes, 0xa5)
	unchanged(t, "Put", tree, before)
	passed := copied(tree)
	got, w, e = commits.Put(passed, k, block, n, plain)
	spoil(passed)
	compare(got, w, e)
	return got, w
}

// comparePlan checks a plan, and that its writes share no memory; it overwrites them.
func comparePlan(t *testing.T, tree updates.Tree, c api.Cell, got []commits.Write, next api.Cell, e api.Errno, want []commits.Write, cell api.Cell, err api.Errno) {
	t.Helper()
	if len(got) != len(want) || cap(got) != len(got) || next != cell || e != err {
		t.Fatalf("Plan(%s, %v) has %d writes with room for %d, %v, %d, want %d, %v, %d", show(tree), c, len(got), cap(got), next, e, len(want), cell, err)
	}
	for i, w := range got {
		if !sameWrite(w, want[i]) || cap(w.Bytes) != len(w.Bytes) {
			t.Fatalf("write %d of Plan(%s, %v) is %v with room for %d, want %v", i, show(tree), c, w, cap(w.Bytes), want[i])
		}
		fill(w.Bytes, byte(i))
	}
	for i, w := range got {
		if bytes.Count(w.Bytes, []byte{byte(i)}) != len(w.Bytes) {
			t.Fatalf("write %d of Plan(%s, %v) shares its bytes", i, show(tree), c)
		}
	}
	clear(got)
}

// checkPlan checks what Plan returns, and returns it.
func checkPlan(t *testing.T, tree updates.Tree, c api.Cell, want []commits.Write, cell api.Cell, err api.Errno) ([]commits.Write, api.Cell) {
	t.Helper()
	before := copied(tree)
	got, next, e := commits.Plan(tree, c)
	comparePlan(t, tree, c, got, next, e, want, cell, err)
	unchanged(t, "Plan", tree, before)
	passed := copied(tree)
	got, next, e = commits.Plan(passed, c)
	spoil(passed)
	made := cloned(got)
	comparePlan(t, tree, c, got, next, e, want, cell, err)
	return made, next
}

func checkKept(t *testing.T, tree updates.Tree, want []int, err api.Errno) {
	t.Helper()
	before := copied(tree)
	for range 2 {
		got, e := commits.Kept(tree)
		compareList(t, "Kept("+show(tree)+")", got, e, want, err)
		clear(got)
	}
	unchanged(t, "Kept", tree, before)
}

func checkSectors(t *testing.T, l []commits.Write, want []int) {
	t.Helper()
	before := cloned(l)
	for range 2 {
		got := commits.Sectors(l)
		compareList(t, "Sectors", got, api.OK, want, api.OK)
		clear(got)
	}
	if !slices.EqualFunc(l, before, sameWrite) {
		t.Fatalf("Sectors made the list %v from %v", l, before)
	}
}

// past is everything that the sectors of a disk had: for each of them the contents after its changes, nil where it was absent.
func past(t *testing.T, d disks.Disk) [][][]byte {
	t.Helper()
	var l [][][]byte
	for sector := range d.Size() {
		count, e := d.Versions(sector)
		if e != api.OK {
			t.Fatalf("Versions(%d): error %d", sector, e)
		}
		var contents [][]byte
		for k := 1; k <= count; k++ {
			b, e := d.Version(sector, k)
			switch e {
			case api.OK:
				contents = append(contents, append([]byte{}, b...))
			case api.ErrNone:
				contents = append(contents, nil)
			default:
				t.Fatalf("Version(%d, %d): error %d", sector, k, e)
			}
		}
		l = append(l, contents)
	}
	return l
}

func samePast(a, b [][][]byte) bool {
	return slices.EqualFunc(a, b, func(x, y [][]byte) bool {
		return slices.EqualFunc(x, y, func(c, d []byte) bool { return bytes.Equal(c, d) && (c == nil) == (d == nil) })
	})
}

// wantApply returns what the sectors of a disk have had after the first writes of a list were carried out, or the error.
func wantApply(before [][][]byte, l []commits.Write, k int) ([][][]byte, api.Errno) {
	if k < 0 || k > len(l) {
		return nil, api.ErrArg
	}
	after := slices.Clone(before)
	for _, w := range l[:k] {
		switch {
		case w.Sector < 0 || w.Sector >= len(after):
			return nil, api.ErrArg
		case len(w.Bytes) > 256:
			return nil, api.ErrLimit
		}
		after[w.Sector] = append(slices.Clip(after[w.Sector]), append([]byte{}, w.Bytes...))
	}
	return after, api.OK
}

// checkApply checks what Apply returns, and returns it.
func checkApply(t *testing.T, d disks.Disk, l []commits.Write, k int, err api.Errno) disks.Disk {
	t.Helper()
	before, list := past(t, d), cloned(l)
	want, e := wantApply(before, l, k)
	if e != err {
		t.Fatalf("the error of %d of the writes %v is %d, not %d", k, l, e, err)
	}
	passed := cloned(l)
	got, e := commits.Apply(d, passed, k)
	if !slices.EqualFunc(passed, list, sameWrite) {
		t.Fatalf("Apply made the list %v from %v", passed, list)
	}
	for _, w := range passed {
		fill(w.Bytes, 0x5a)
	}
	clear(passed)
	if after := past(t, got); e != err || !samePast(after, want) || got.Changes() != changesOf(want) {
		t.Fatalf("Apply of %d of the writes %v = %v, %d, want %v, %d", k, list, after, e, want, err)
	}
	if !samePast(past(t, d), before) {
		t.Fatalf("Apply of %d of the writes %v changed its disk", k, list)
	}
	return got
}

func changesOf(past [][][]byte) int {
	count := 0
	for _, contents := range past {
		count += len(contents)
	}
	return count
}

// judge checks all functions that take a tree for the one of a state, with a cell.
func judge(t *testing.T, s state, c api.Cell) {
	t.Helper()
	tree := s.tree()
	checkKept(t, tree, s.kept(), api.OK)
	l, next, e := s.wantPlan(c)
	checkPlan(t, tree, c, l, next, e)
	for _, block := range []int{0, s.n / 2, s.n - 1} {
		judgePut(t, s, tree, block)
	}
	refusePut(t, tree, []int{-1, s.n}, api.ErrArg)
}

// judgePut checks what Put returns for a block of the tree of a state.
func judgePut(t *testing.T, s state, tree updates.Tree, block int) {
	t.Helper()
	n, plain := api.Nonce{Shard: 5, Counter: 1 << 50}, plainOf(block+1)
	want, w := s.put(keys, block, n, plain)
	checkPut(t, tree, keys, block, n, plain, want.tree(), w, api.OK)
}

// refusePut checks that Put returns an error alone.
func refusePut(t *testing.T, tree updates.Tree, blocks []int, err api.Errno) {
	t.Helper()
	for _, block := range blocks {
		checkPut(t, tree, keys, block, api.Nonce{Counter: 7}, plainOf(3), updates.Tree{}, commits.Write{}, err)
	}
}
