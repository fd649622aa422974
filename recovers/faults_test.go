package recovers_test

import (
	"crypto/sha256"
	"maps"
	"slices"
	"testing"

	"caisson/api"
	"caisson/loads"
	"caisson/shapes"
)

// edit is another content of a sector, or none, and the fault that it is where the sector is read.
type edit struct {
	content []byte // nil: absent
	fault   loads.Fault
}

// nodeEdits are edits of the sector of the node at a place: it is erased, torn off, lengthened, or gets another node's bytes.
func (v volume) nodeEdits(t *testing.T, p shapes.Place) []edit {
	t.Helper()
	b := bytesOf(t, v.at(p))
	l := []edit{
		{nil, loads.Absent}, {b[:len(b)-1], loads.Malformed}, {[]byte{}, loads.Malformed}, {b[:1], loads.Malformed}, {append(slices.Clone(b), 0), loads.Malformed}, {[]byte{9}, loads.Malformed}, {make([]byte, 32), loads.Malformed},
		{bytesOf(t, api.Node{Level: b[0], Index: 4095}), loads.Misplaced}, {bytesOf(t, api.Node{Level: (b[0] + 1) % 6}), loads.Misplaced},
	}
	if !isEmpty(v.at(p)) {
		l = append(l, edit{bytesOf(t, emptyNode(p)), loads.Altered})
	}
	return l
}

// dataEdits are edits of the sector of a block's data.
func dataEdits(data []byte) []edit {
	other := slices.Clone(data)
	other[31] ^= 128
	return []edit{
		{nil, loads.Absent}, {data[:31], loads.Wide}, {[]byte{}, loads.Wide}, {append(slices.Clone(data), 0), loads.Wide}, {make([]byte, 185), loads.Wide}, {make([]byte, 32), loads.Forged}, {other, loads.Forged},
	}
}

// edits returns for each sector that is read the edits of it.
func (v volume) edits(t *testing.T) map[int][]edit {
	t.Helper()
	m := map[int][]edit{}
	for _, p := range upwards(v.n) {
		if v.uses(p) {
			m[v.sectorOf(p)] = v.nodeEdits(t, p)
		}
	}
	for block := range v.n {
		if r := v.recordOf(block); r.State > 0 {
			m[dataSector(block, r)] = dataEdits(v.sectors[dataSector(block, r)])
		}
	}
	return m
}

// P20.2 to P20.6: each sector with each edit; one that is not read changes nothing.
func TestEditedSectors(t *testing.T) {
	t.Parallel()
	for _, n := range []int{1, 2, 4, 5, 16, 17, 21, 65} {
		for i, state := range states(n) {
			if n > 10 && i%3 != n%3 || n > 60 && i > 2 {
				continue
			}
			v := volumeOf(t, source{n: n, state: state, slot: thirds, epoch: uint64(i), filled: i%2 == 1})
			m := v.edits(t)
			for sector := range sizeOf(n) {
				for _, x := range m[sector] {
					v.with(t, sector, x.content).check(t, v.stored(map[int]loads.Fault{sector: x.fault}))
				}
				if m[sector] == nil {
					for _, b := range [][]byte{nil, {}, {7}, make([]byte, 32), make([]byte, 185), bytesOf(t, v.at(rootOf(n)))} {
						v.with(t, sector, b).check(t, v.stored(nil))
					}
				}
			}
		}
	}
}

// P20.2 to P20.6: some sectors of great volumes.
func TestEditedGreatVolumes(t *testing.T) {
	t.Parallel()
	draw := drawer(5)
	for _, n := range []int{256, 257, 1025, 4096} {
		v := full(t, n)
		m := v.edits(t)
		l := []int{v.sectorOf(place(0, 0)), v.sectorOf(place(0, (n-1)/4)), v.sectorOf(place(1, (n-1)/16)), v.sectorOf(rootOf(n)), dataSector(n-1, v.recordOf(n-1)), draw(sizeOf(n))}
		for _, sector := range l {
			if m[sector] == nil {
				v.with(t, sector, nil).check(t, v.stored(nil))
				continue
			}
			x := m[sector][draw(len(m[sector]))]
			v.with(t, sector, x.content).check(t, v.stored(map[int]loads.Fault{sector: x.fault}))
		}
	}
}

// P20.2 to P20.6: several sectors at once, those that are not read among them.
func TestSeveralEdits(t *testing.T) {
	t.Parallel()
	draw, firsts := drawer(6), map[int]int{}
	for range 1200 {
		n := []int{4, 5, 16, 17, 21, 33, 64, 65}[draw(8)]
		v := volumeOf(t, source{n: n, state: states(n)[draw(9)], slot: alternate, epoch: uint64(draw(9)), filled: draw(2) == 0})
		m, faults, w := v.edits(t), map[int]loads.Fault{}, v
		for range 2 + draw(4) {
			// Nodes are fewer than blocks, so they would rarely be edited otherwise; the root is left alone mostly.
			sector := draw(sizeOf(n))
			if draw(2) == 0 {
				sector = 2*n + draw(sizeOf(n)-2*n)
			}
			if sector/2 == sizeOf(n)/2-1 && draw(5) > 0 {
				continue
			}
			if m[sector] == nil {
				w = w.with(t, sector, make([]byte, draw(257)))
				continue
			}
			x := m[sector][draw(len(m[sector]))]
			w, faults[sector] = w.with(t, sector, x.content), x.fault
		}
		want := v.stored(faults)
		w.check(t, want)
		if s, e := shapes.Of(n, want.tree.problem.Sector); want.tree.err != api.OK && e == api.OK {
			firsts[s.Level]++
		}
	}
	if len(firsts) != 4 || firsts[0] < 50 || firsts[1] < 50 {
		t.Fatalf("the first problems of the trees are at the levels %v", firsts)
	}
}

// P20.3: which of two nodes that are not accepted is the first one, written out: by level downwards, and then by index; and P20.4: which of two blocks.
func TestFirstProblems(t *testing.T) {
	v := full(t, 65)
	root := place(3, 0)
	for _, x := range []struct{ first, second shapes.Place }{
		{root, place(0, 0)}, {root, place(2, 1)}, {place(2, 0), place(2, 1)}, {place(2, 1), place(1, 0)}, {place(2, 1), place(0, 0)}, {place(1, 0), place(1, 4)}, {place(1, 3), place(0, 0)}, {place(1, 4), place(0, 0)}, {place(1, 4), place(0, 16)}, {place(1, 2), place(1, 3)},
		{place(0, 0), place(0, 1)}, {place(0, 2), place(0, 16)}, {place(0, 15), place(0, 16)}, {place(2, 0), place(0, 16)},
	} {
		one, two := v.sectorOf(x.first), v.sectorOf(x.second)
		w := v.with(t, one, nil).with(t, two, []byte{1, 2, 3})
		want := v.stored(map[int]loads.Fault{one: loads.Absent, two: loads.Malformed})
		compare(t, "the first problem", want.tree.problem, loads.Problem{Sector: one, Fault: loads.Absent})
		w.check(t, want)
		w = v.with(t, two, nil).with(t, one, []byte{1, 2, 3})
		want = v.stored(map[int]loads.Fault{two: loads.Absent, one: loads.Malformed})
		compare(t, "the first problem", want.tree.problem, loads.Problem{Sector: one, Fault: loads.Malformed})
		w.check(t, want)
	}
	for _, x := range [][2]int{{0, 1}, {0, 64}, {1, 2}, {3, 4}, {31, 64}, {63, 64}} {
		one, two := dataSector(x[0], v.recordOf(x[0])), dataSector(x[1], v.recordOf(x[1]))
		w := v.with(t, two, nil).with(t, one, make([]byte, 33))
		want := v.stored(map[int]loads.Fault{two: loads.Absent, one: loads.Wide})
		if want.at != x[0] || !slices.Equal(want.lost, x[:]) || want.survey[x[1]] != (loads.Problem{Sector: two, Fault: loads.Absent}) {
			t.Fatalf("the blocks %v are not accepted, but it is said of %v", x, want.lost)
		}
		w.check(t, want)
		// A node further on that is not accepted comes first in the tree, the data of a block before it among the blocks.
		last := v.sectorOf(place(0, 16))
		want = v.stored(map[int]loads.Fault{last: loads.Absent, one: loads.Wide})
		if want.tree.problem.Sector != last || want.at != x[0] || !slices.Equal(want.lost, []int{x[0], 64}) {
			t.Fatal(want)
		}
		v.with(t, last, nil).with(t, one, make([]byte, 33)).check(t, want)
	}
}

// P20.2 to P20.6: each byte of each sector that is read, or some of them if there are many, alone.
func TestChangedBytes(t *testing.T) {
	t.Parallel()
	for _, n := range []int{1, 5, 17} {
		v := full(t, n)
		for _, sector := range slices.Sorted(maps.Keys(v.edits(t))) {
			for at := range v.sectors[sector] {
				if n > 10 && at > 60 && (at+sector)%7 > 0 {
					continue
				}
				b := slices.Clone(v.sectors[sector])
				b[at] ^= []byte{1, 128, 255}[at%3]
				w, lost := v.with(t, sector, b), v.below(sector)
				// Which fault it is, the layer below tells; what is lost by it is known here.
				_, p, e := loads.Block(n, w.disk, w.cell, w.keys, lost[0])
				if p.Sector != sector || e != api.ErrIntegrity {
					t.Fatalf("%d blocks: byte %d of the sector %d is no matter", n, at, sector)
				}
				want := v.stored(map[int]loads.Fault{sector: p.Fault})
				compareList(t, "what is lost", slices.Clip(want.lost), slices.Clip(lost))
				w.check(t, want)
			}
		}
	}
}

// below returns the blocks for which a sector is read.
func (v volume) below(sector int) []int {
	var l []int
	for block := range v.n {
		if slices.Contains(v.reads(block), sector) {
			l = append(l, block)
		}
	}
	return l
}

// P20.2 to P20.6: each sector with the bytes of each other one, or of some others if there are many.
func TestReplacedSectors(t *testing.T) {
	t.Parallel()
	for _, n := range []int{1, 4, 5, 17} {
		for i, state := range states(n)[1:4] {
			v := volumeOf(t, source{n: n, state: state, slot: thirds, epoch: uint64(i), filled: i == 1})
			for from := range sizeOf(n) {
				for to := range sizeOf(n) {
					if from == to || n > 10 && (from+3*to)%5 != i {
						continue
					}
					w := v.with(t, to, v.sectors[from])
					w.check(t, w.want())
					if v.below(to) == nil {
						w.check(t, v.stored(nil))
					}
				}
			}
		}
	}
}

// P20.2 to P20.5: the whole disk of another volume, and the one without anything.
func TestOtherVolumes(t *testing.T) {
	for _, n := range []int{1, 4, 5, 17, 65} {
		v := full(t, n)
		for i, state := range states(n) {
			w := volumeOf(t, source{n: n, state: state, slot: alternate, epoch: uint64(i)})
			w.cell.Root = v.cell.Root
			w.check(t, w.want())
			if w.at(rootOf(n)) != v.at(rootOf(n)) {
				w.check(t, w.stored(map[int]loads.Fault{w.sectorOf(rootOf(n)): loads.Altered}))
			}
		}
		v.sectors, v.disk = map[int][]byte{}, diskOf(t, sizeOf(n), nil)
		v.check(t, v.stored(map[int]loads.Fault{v.sectorOf(rootOf(n)): loads.Absent}))
	}
}

// entryOf returns the entry that leads to a node in a slot.
func entryOf(t *testing.T, x api.Node, slot int) api.Entry {
	t.Helper()
	return api.Entry{State: uint8(slot + 1), Digest: sha256.Sum256(bytesOf(t, x))}
}

// lead returns the volume in which the entry for a place leads to the node there, and everything above it is accepted.
func (v volume) lead(t *testing.T, p shapes.Place) volume {
	t.Helper()
	parent, which, _ := shapes.Parent(v.n, p)
	x := v.at(parent)
	x.Entries[which] = entryOf(t, v.at(p), v.slots[numberOf(v.n, p)])
	return v.with(t, v.sectorOf(p), bytesOf(t, v.at(p))).linked(t, x)
}

// P20.3: entries that lead to an empty node: each node is accepted, and all blocks are, but there is no such tree.
func TestInvalidTrees(t *testing.T) {
	for _, n := range []int{5, 16, 17, 21, 65, 257} {
		for i, state := range states(n) {
			v := volumeOf(t, source{n: n, state: state, slot: alternate, epoch: uint64(i)})
			for _, p := range upwards(n) {
				if v.uses(p) || n > 30 && p.Index%5 != i%5 {
					continue
				}
				w := v
				for q := p; q != rootOf(n); q, _, _ = shapes.Parent(n, q) {
					w = w.lead(t, q)
				}
				want := v.stored(nil)
				want.root, want.tree = w.at(rootOf(n)), tree{err: api.ErrIntegrity}
				w.check(t, want)
				compare(t, "the tree's error", w.wantTree().err, api.ErrIntegrity)
			}
		}
	}
}

// P20.3: a tree that is none, and a node that is not accepted, before or behind what is wrong: the node is the problem.
func TestInvalidTreesWithProblems(t *testing.T) {
	// The groups 0, 2 and 4 were written, and an entry leads to the group 1, or 3, which is empty.
	v := volumeOf(t, source{n: 17, state: func(block int) uint8 { return only(block/4%2 == 0, both(block)) }, slot: zeros, epoch: 2})
	for _, p := range []shapes.Place{place(0, 1), place(0, 3)} {
		w := v.lead(t, p)
		w.check(t, w.want())
		for _, q := range []shapes.Place{place(0, 0), place(0, 2), place(0, 4), place(1, 0), place(1, 1), p} {
			want := w.with(t, w.sectorOf(q), nil).want()
			compare(t, "the problem", want.tree.problem, loads.Problem{Sector: w.sectorOf(q), Fault: loads.Absent})
			w.with(t, w.sectorOf(q), nil).check(t, want)
		}
	}
}

// P20.3 to P20.5: entries that lead nowhere.
func TestStrangeEntries(t *testing.T) {
	for _, n := range []int{5, 17, 65} {
		for i, state := range states(n) {
			v := volumeOf(t, source{n: n, state: state, slot: thirds, epoch: uint64(i)})
			root := v.at(rootOf(n))
			for which := range 2 {
				child, _ := shapes.Child(n, rootOf(n), which)
				first, _, _ := shapes.Blocks(n, child)
				for _, x := range []struct {
					entry  api.Entry
					absent bool
				}{
					{api.Entry{State: 1}, true}, {api.Entry{State: 2, Digest: api.Digest{1}}, true}, {api.Entry{State: 1, Digest: api.Digest{31: 5}}, false}, {api.Entry{State: 2}, false},
				} {
					forged := root
					forged.Entries[which] = x.entry
					sector := nodeSector(n, child, int(x.entry.State)-1)
					want := loads.Problem{Sector: sector, Fault: loads.Altered}
					w := v.linked(t, forged).with(t, sector, bytesOf(t, emptyNode(child)))
					if x.absent {
						want.Fault = loads.Absent
						w = w.with(t, sector, nil)
					}
					r := w.want()
					compare(t, "the problem", r.survey[first], want)
					w.check(t, r)
				}
			}
		}
	}
}

// P20.3 to P20.5: an entry that is zero hides what was below it, and the tree is another one.
func TestHiddenSubtrees(t *testing.T) {
	for _, n := range []int{5, 17, 65} {
		v := full(t, n)
		for which := range 2 {
			forged := v.at(rootOf(n))
			forged.Entries[which] = api.Entry{}
			w := v.linked(t, forged)
			r := w.want()
			if r.tree.err != api.OK || r.err != api.OK || r.blocks[which*(n-1)] != (api.Block{}) || r.blocks[(1-which)*(n-1)] == (api.Block{}) {
				t.Fatalf("%d blocks: without the part %d: %v", n, which, r)
			}
			w.check(t, r)
		}
		w := v.linked(t, emptyNode(rootOf(n)))
		fresh := volumeOf(t, source{n: n, state: never, slot: ones, epoch: v.cell.Epoch})
		w.check(t, fresh.stored(nil))
	}
}

// P20.3 to P20.5: groups whose records are those of no data: the tree is valid, and their blocks are lost.
func TestStrangeRecords(t *testing.T) {
	for _, n := range []int{1, 4, 5, 17} {
		v := full(t, n)
		for block := range n {
			p, which, _ := shapes.Group(n, block)
			own := v.recordOf(block)
			for _, x := range []struct {
				r     api.Record
				fault loads.Fault
			}{
				{api.Record{State: own.State}, loads.Forged}, {api.Record{State: 3 - own.State, Nonce: own.Nonce, Tag: own.Tag}, loads.Absent}, {api.Record{State: own.State, Nonce: own.Nonce}, loads.Forged}, {api.Record{}, 0},
			} {
				group := v.at(p)
				group.Records[which] = x.r
				w := v.linked(t, group)
				r := w.want()
				if lost := slices.Contains(r.lost, block); lost != (x.fault > 0) || len(r.lost) > 1 || r.survey[block].Fault != x.fault {
					t.Fatalf("%d blocks, %v as the record of the block %d: %v is lost", n, x.r, block, r.lost)
				}
				none := isEmpty(group) && p != rootOf(n)
				if (r.tree.err == api.OK) == none {
					t.Fatalf("%d blocks, %v as the record of the block %d: the tree's error is %d", n, x.r, block, r.tree.err)
				}
				w.check(t, r)
			}
		}
	}
}

// P20.2 to P20.6: disks with nodes and data of several volumes, under roots of these; those that are accepted are linked sometimes.
func TestDrawnDisks(t *testing.T) {
	t.Parallel()
	draw, outcomes := drawer(7), map[string]int{}
	for range 2000 {
		n := []int{1, 4, 5, 16, 17, 21, 33}[draw(7)]
		source := func() source {
			return source{n: n, state: states(n)[draw(9)], slot: alternate, epoch: uint64(draw(4)), filled: draw(3) == 0}
		}
		v, other := volumeOf(t, source()), volumeOf(t, source())
		for range draw(4) {
			sector := draw(sizeOf(n))
			v = v.with(t, sector, other.sectors[[]int{sector, sector ^ 1}[draw(2)]])
		}
		if draw(3) == 0 {
			p := upwards(n)[draw(len(upwards(n)))]
			v = v.linked(t, [2]volume{v, other}[draw(2)].at(p))
		}
		if p := upwards(n)[draw(len(upwards(n)))]; draw(3) == 0 && p != rootOf(n) {
			v = v.lead(t, p)
		}
		r := v.want()
		v.check(t, r)
		switch {
		case r.tree.err == api.OK && r.err == api.OK:
			outcomes["good"]++
		case r.tree.err == api.OK:
			outcomes["data lost"]++
		case r.tree.problem == loads.Problem{}:
			outcomes["no tree"]++
		default:
			outcomes["node lost"]++
		}
	}
	for _, kind := range []string{"good", "data lost", "no tree", "node lost"} {
		if outcomes[kind] < 50 {
			t.Fatalf("the drawn disks have the outcomes %v only", outcomes)
		}
	}
}
