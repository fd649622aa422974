package loads_test

import (
	"bytes"
	"crypto/sha256"
	"maps"
	"slices"
	"testing"

	"caisson/api"
	"caisson/loads"
	"caisson/shapes"
)

// sectorOf returns the sector of the node at a place.
func (v volume) sectorOf(p shapes.Place) int {
	return nodeSector(v.n, p, v.slots[numberOf(v.n, p)])
}

// linked returns the volume with another content of the node at a place, and with nodes above it and a cell that ask for this content.
func (v volume) linked(t *testing.T, p shapes.Place, b []byte) volume {
	t.Helper()
	v.nodes = slices.Clone(v.nodes)
	for {
		v = v.with(t, v.sectorOf(p), b)
		digest := sha256.Sum256(b)
		if p.Level == heightOf(v.n) {
			return v.under(digest)
		}
		above := place(p.Level+1, p.Index/4)
		x := &v.nodes[numberOf(v.n, above)]
		x.Entries[p.Index%4] = api.Entry{State: uint8(v.slots[numberOf(v.n, p)] + 1), Digest: digest}
		p, b = above, nodeBytes(*x)
	}
}

// spoilt is another content of the sector of a node, and the fault that it has even if its digest is the one that is asked for, or 0.
type spoilt struct {
	content []byte
	fault   loads.Fault
}

// spoils returns other contents for the node at a place.
func spoils(v volume, p shapes.Place) []spoilt {
	b := nodeBytes(v.nodes[numberOf(v.n, p)])
	l := []spoilt{{nil, loads.Malformed}, {make([]byte, 256), loads.Malformed}, {append(slices.Clone(b), 0), loads.Malformed}, {append(slices.Clone(b), 1, 2), loads.Malformed}, {plainBytes(32), loads.Malformed}}
	for _, size := range []int{1, 4, 5, 50, 136, len(b) - 2, len(b) - 1} {
		l = append(l, spoilt{b[:min(size, len(b)-1)], loads.Malformed})
	}
	for _, c := range malformed(b) {
		l = append(l, spoilt{c, loads.Malformed})
	}
	for _, x := range misplaced(v, p) {
		l = append(l, spoilt{nodeBytes(x), loads.Misplaced})
	}
	for _, x := range altered(v, p) {
		l = append(l, spoilt{nodeBytes(x), 0})
	}
	return l
}

func plainBytes(size int) []byte {
	b := make([]byte, size)
	for i := range b {
		b[i] = byte(3*i + 1)
	}
	return b
}

// changed returns bytes of which one is another one.
func changed(b []byte, at int, x byte) []byte {
	c := slices.Clone(b)
	c[at] = x
	return c
}

// malformed returns contents as long as those of a node, that are not the bytes of any node.
func malformed(b []byte) [][]byte {
	var l [][]byte
	for _, level := range []byte{6, 7, 127, 128, 255} {
		l = append(l, changed(b, 0, level))
	}
	// The other kind of nodes has another length.
	if b[0] == 0 {
		l = append(l, changed(b, 0, 1), changed(b, 0, 5))
	} else {
		l = append(l, changed(b, 0, 0))
	}
	size := (len(b) - 5) / 4
	for part := range 4 {
		at := 5 + part*size
		l = append(l, changed(b, at, 3), changed(b, at, 255))
		for _, offset := range []int{1, size / 2, size - 1} {
			l = append(l, changed(changed(b, at, 0), at+offset, 9))
		}
	}
	return l
}

// misplaced returns valid nodes that cannot stand at a place.
func misplaced(v volume, p shapes.Place) []api.Node {
	var l []api.Node
	good := v.nodes[numberOf(v.n, p)]
	for level := range 6 {
		x := good
		x.Level = uint8(level)
		if level == 0 || p.Level == 0 {
			x = emptyNode(level, p.Index)
		}
		if level != p.Level {
			l = append(l, x)
		}
	}
	for _, bit := range []int{0, 1, 2, 7, 8, 15, 16, 24, 31} {
		x := good
		x.Index ^= 1 << bit
		l = append(l, x)
	}
	for which := partsOf(v.n, p); which < 4; which++ {
		x := good
		if p.Level == 0 {
			x.Records[which].State = 1
		} else {
			x.Entries[which].State = 2
		}
		l = append(l, x)
	}
	for number, other := range places(v.n) {
		if other != p && (v.n < 30 || number%7 == 0) {
			l = append(l, v.nodes[number])
		}
	}
	return l
}

// altered returns other nodes that can stand at a place.
func altered(v volume, p shapes.Place) []api.Node {
	good := v.nodes[numberOf(v.n, p)]
	l := []api.Node{emptyNode(p.Level, p.Index)}
	for which := range partsOf(v.n, p) {
		for _, change := range []func(*api.Record, *api.Entry){
			func(r *api.Record, x *api.Entry) { *r, *x = api.Record{}, api.Entry{} },
			func(r *api.Record, x *api.Entry) { r.State, x.State = 3-r.State, 3-x.State },
			func(r *api.Record, x *api.Entry) { r.Tag[0]++; x.Digest[0]++ },
			func(r *api.Record, x *api.Entry) { r.Tag[31] ^= 128; x.Digest[31] ^= 128 },
			func(r *api.Record, x *api.Entry) { r.Nonce.Shard++; x.Digest[9] = 0 },
			func(r *api.Record, x *api.Entry) { r.Nonce.Counter--; x.Digest = api.Digest{} },
		} {
			x := good
			change(&x.Records[which], &x.Entries[which])
			if p.Level == 0 {
				x.Entries = good.Entries
			} else {
				x.Records = good.Records
			}
			if valid(x) && x != good {
				l = append(l, x)
			}
		}
	}
	return l
}

// below returns some blocks below a place.
func below(n int, p shapes.Place) []int {
	from := p.Index * span(p.Level)
	to := min(from+span(p.Level), n)
	return []int{from, (from + to) / 2, to - 1}
}

// besides returns a block that is not below a place, or false if there is none.
func besides(n int, p shapes.Place) (int, bool) {
	if p.Index > 0 {
		return p.Index*span(p.Level) - 1, true
	}
	return span(p.Level), span(p.Level) < n
}

// checkRefused checks that the node at a place is refused, and with it every block below it.
func (v volume) checkRefused(t *testing.T, p shapes.Place, f loads.Fault) {
	t.Helper()
	sector := v.sectorOf(p)
	if p.Level == heightOf(v.n) {
		v.checkRoot(t, refused[api.Node](sector, f))
	} else {
		v.checkChild(t, v.nodes[numberOf(v.n, place(p.Level+1, p.Index/4))], p.Index%4, refused[api.Node](sector, f))
	}
	for _, block := range below(v.n, p) {
		v.checkPath(t, block, refused[[]api.Node](sector, f))
		v.checkRecord(t, block, refused[api.Record](sector, f))
		v.checkBlock(t, block, refused[api.Block](sector, f))
	}
	v.checkDisk(t)
}

// P17.1 to P17.3: each node with each fault: the first one of it counts, with the sector of the node.
func TestNodeFaults(t *testing.T) {
	for _, n := range []int{1, 3, 4, 5, 16, 17, 65} {
		v := full(t, n)
		for _, p := range places(n) {
			other, there := besides(n, p)
			v.without(t, v.sectorOf(p)).checkRefused(t, p, loads.Absent)
			for _, x := range spoils(v, p) {
				fault := x.fault
				if fault == 0 {
					fault = loads.Altered
				}
				alone := v.with(t, v.sectorOf(p), x.content)
				alone.checkRefused(t, p, fault)
				if there {
					alone.checkStored(t, other)
				}
				linked := v.linked(t, p, x.content)
				if x.fault > 0 {
					linked.checkRefused(t, p, x.fault)
				} else {
					linked.checkAccepted(t, p, x.content)
				}
				if there {
					linked.judge(t, other)
				}
			}
		}
	}
}

// checkAccepted checks that the node at a place is accepted with a content.
func (v volume) checkAccepted(t *testing.T, p shapes.Place, b []byte) {
	t.Helper()
	x, ok := parse(b)
	if !ok {
		t.Fatalf("%x is no node", b)
	}
	if p.Level == heightOf(v.n) {
		v.checkRoot(t, good(x))
	} else {
		v.checkChild(t, v.nodes[numberOf(v.n, place(p.Level+1, p.Index/4))], p.Index%4, good(x))
	}
	for _, block := range below(v.n, p) {
		v.judge(t, block)
	}
}

// P17.1, P17.2: each byte of each node on a path with other values, alone, and if the nodes above and the cell ask for it.
func TestNodeBytes(t *testing.T) {
	outcomes := map[loads.Fault]int{}
	for _, n := range []int{1, 5, 7, 17} {
		v := full(t, n)
		for _, block := range []int{0, n - 1} {
			for _, p := range pathOf(n, block) {
				b := v.sectors[v.sectorOf(p)]
				for at, old := range b {
					for _, x := range []byte{old ^ 1, old ^ 2, old ^ 128, ^old, 0, 5} {
						alone := v.with(t, v.sectorOf(p), changed(b, at, x))
						alone.judge(t, block)
						if r := alone.wantPath(block); x != old && r.err != api.ErrIntegrity {
							t.Fatalf("%d blocks: byte %d of the node at %v does not matter: %v", n, at, p, r)
						}
						linked := v.linked(t, p, changed(b, at, x))
						linked.judge(t, block)
						outcomes[alone.wantPath(block).problem.Fault]++
						outcomes[linked.wantPath(block).problem.Fault]++
					}
				}
			}
		}
	}
	if len(outcomes) != 4 || outcomes[0] == 0 {
		t.Fatalf("the changed bytes have the outcomes %v only", outcomes)
	}
}

// P17.1, P17.2: contents of all lengths.
func TestNodeSizes(t *testing.T) {
	v := full(t, 5)
	for _, p := range pathOf(5, 4) {
		b := v.sectors[v.sectorOf(p)]
		for size := range api.MaxSector + 1 {
			content := append(slices.Clone(b[:min(size, len(b))]), make([]byte, max(0, size-len(b)))...)
			if size != len(b) {
				v.with(t, v.sectorOf(p), content).checkRefused(t, p, loads.Malformed)
				v.linked(t, p, content).checkRefused(t, p, loads.Malformed)
			}
		}
	}
	for size := range api.MaxSector + 1 {
		v.with(t, 15, make([]byte, size)).judge(t, 0)
		v.with(t, 14, make([]byte, size)).judge(t, 0)
	}
}

// P17.1: each bit of the root's digest counts, and each bit of an entry's.
func TestDigests(t *testing.T) {
	for _, n := range []int{1, 5, 65} {
		v := full(t, n)
		root := v.nodes[len(v.nodes)-1]
		for bit := range 256 {
			digest := v.cell.Root
			digest[bit/8] ^= 1 << (bit % 8)
			v.under(digest).checkRefused(t, place(heightOf(n), 0), loads.Altered)
			if n > 1 {
				x := root
				x.Entries[1].Digest[bit/8] ^= 1 << (bit % 8)
				v.checkChild(t, x, 1, refused[api.Node](v.sectorOf(place(heightOf(n)-1, 1)), loads.Altered))
			}
		}
	}
}

// P17.1 to P17.3: the content of each sector in each other one.
func TestExchangedSectors(t *testing.T) {
	for _, n := range []int{1, 2, 5, 17} {
		v := full(t, n)
		for _, from := range slices.Sorted(maps.Keys(v.sectors)) {
			for to := range sizeOf(n) {
				w := v.with(t, to, v.sectors[from])
				for block := range n {
					w.judge(t, block)
				}
				if from != to {
					w = w.without(t, from)
					w.judge(t, 0)
					w.judge(t, n-1)
				}
			}
		}
	}
}

// P17.2, P17.3: of two sectors on the way to a block that are not accepted the first one counts.
func TestTwoSectors(t *testing.T) {
	edits := []struct {
		fault loads.Fault
		edit  func(v volume, sector int) volume
	}{
		{loads.Absent, func(v volume, sector int) volume { return v.without(t, sector) }},
		{loads.Malformed, func(v volume, sector int) volume { return v.with(t, sector, []byte{9}) }},
		{loads.Misplaced, func(v volume, sector int) volume {
			return v.with(t, sector, nodeBytes(emptyNode(0, 4095)))
		}},
		{loads.Altered, func(v volume, sector int) volume {
			s, _ := shapes.Of(v.n, sector)
			return v.with(t, sector, nodeBytes(emptyNode(s.Level, s.Index)))
		}},
	}
	for _, n := range []int{5, 65, 4096} {
		v := full(t, n)
		block := n - 1
		path := pathOf(n, block)
		data := dataSector(block, int(v.records[block].State)-1)
		for i, p := range path {
			for _, first := range edits {
				w := first.edit(v, v.sectorOf(p))
				w.without(t, data).checkBlock(t, block, refused[api.Block](v.sectorOf(p), first.fault))
				for _, q := range path[i+1:] {
					for _, second := range edits {
						x := second.edit(w, v.sectorOf(q))
						x.checkPath(t, block, refused[[]api.Node](v.sectorOf(p), first.fault))
						x.checkRecord(t, block, refused[api.Record](v.sectorOf(p), first.fault))
						x.checkBlock(t, block, refused[api.Block](v.sectorOf(p), first.fault))
					}
				}
			}
		}
		for _, second := range edits {
			w := second.edit(v, v.sectorOf(path[len(path)-1])).with(t, data, nil)
			w.checkBlock(t, block, refused[api.Block](v.sectorOf(path[len(path)-1]), second.fault))
		}
	}
}

// reads returns the sectors that are read for a block.
func (v volume) reads(block int) []int {
	var l []int
	for i, p := range pathOf(v.n, block) {
		if i == 0 || !isEmpty(v.nodes[numberOf(v.n, p)]) {
			l = append(l, v.sectorOf(p))
		}
	}
	if s := v.records[block].State; s > 0 {
		l = append(l, dataSector(block, int(s)-1))
	}
	return l
}

// P17.4: what is in a sector that is not read changes nothing; each of those that are read does.
func TestUnreadSectors(t *testing.T) {
	for _, n := range []int{1, 4, 5, 17, 21} {
		for i, state := range states(n) {
			v := volumeOf(t, source{n, state, thirds, uint64(i)})
			for sector := range sizeOf(n) {
				edited := []volume{v.without(t, sector), v.with(t, sector, nil), v.with(t, sector, plainBytes(32)), v.with(t, sector, nodeBytes(v.nodes[0])), v.with(t, sector, v.sectors[v.sectorOf(place(heightOf(n), 0))])}
				for _, block := range []int{0, n / 2, n - 1} {
					at := slices.Index(v.reads(block), sector)
					for _, w := range edited {
						if at < 0 {
							w.checkStored(t, block)
							continue
						}
						w.judge(t, block)
					}
					if at >= 0 {
						edited[0].checkBlock(t, block, refused[api.Block](sector, loads.Absent))
					}
				}
			}
		}
	}
}

// P17.1, P17.3: Root, Child and Data read one sector alone.
func TestSingleSectors(t *testing.T) {
	v := full(t, 17)
	alone := func(sector int) volume {
		w := v
		w.sectors = map[int][]byte{sector: v.sectors[sector]}
		w.disk = diskOf(t, sizeOf(17), w.sectors)
		return w
	}
	for number, p := range places(17) {
		w := alone(v.sectorOf(p))
		if p.Level == heightOf(17) {
			w.checkRoot(t, good(v.nodes[number]))
		} else {
			w.checkChild(t, v.nodes[numberOf(17, place(p.Level+1, p.Index/4))], p.Index%4, good(v.nodes[number]))
		}
	}
	for block, r := range v.records {
		alone(dataSector(block, int(r.State)-1)).checkData(t, block, r, good(plainOf(block)))
	}
}

// older returns contents that some sectors of a volume could have had before, or could get by somebody who knows nodes of other trees.
func older(t *testing.T, v volume) [][]byte {
	t.Helper()
	l := [][]byte{nil, plainBytes(32), make([]byte, 185), make([]byte, 137)}
	for _, s := range states(v.n) {
		w := volumeOf(t, source{v.n, s, alternate, 1})
		for _, sector := range slices.Sorted(maps.Keys(w.sectors)) {
			l = append(l, w.sectors[sector])
		}
	}
	for _, sector := range slices.Sorted(maps.Keys(v.sectors)) {
		l = append(l, v.sectors[sector], v.sectors[sector])
	}
	return l
}

// P17.4: whatever is edited, a path of a block that is accepted under a cell is the same, and so are the record and the block.
func TestEditedDisks(t *testing.T) {
	draw, accepted, total := drawer(1), 0, 0
	for _, n := range []int{1, 4, 5, 16, 17, 21, 65} {
		for i, state := range states(n) {
			v := volumeOf(t, source{n, state, thirds, uint64(i)})
			pool := older(t, v)
			for range 60 {
				w := v
				for range 1 + draw(3) {
					sector := draw(sizeOf(n))
					if draw(4) == 0 {
						w = w.without(t, sector)
					} else {
						w = w.with(t, sector, pool[draw(len(pool))])
					}
				}
				block := draw(n)
				w.judge(t, block)
				total++
				if l, _, e := loads.Path(n, w.disk, w.cell, block); e == api.OK {
					accepted++
					v.checkPath(t, block, good(l))
				}
				if b, _, e := loads.Block(n, w.disk, w.cell, w.keys, block); e == api.OK {
					v.checkBlock(t, block, good(b))
				}
			}
		}
	}
	if accepted < total/10 || accepted > total*9/10 {
		t.Fatalf("of %d paths %d were accepted", total, accepted)
	}
}

// P17.1 to P17.3: contents that are drawn.
func TestDrawnContents(t *testing.T) {
	draw := drawer(2)
	for range 3000 {
		n := smallNumbers[draw(len(smallNumbers))]
		v := volumeOf(t, source{n, states(n)[draw(len(states(n)))], thirds, uint64(draw(2))})
		block := draw(n)
		reads := v.reads(block)
		sector := reads[draw(len(reads))]
		b := bytes.Clone(v.sectors[sector])
		for range 1 + draw(3) {
			switch draw(3) {
			case 0:
				b = b[:draw(len(b)+1)]
			case 1:
				b = append(b, byte(draw(4)))
			default:
				b = append(b, 0)
				b[draw(len(b))] = byte(draw(256))
				b = b[:len(b)-1]
			}
		}
		v.with(t, sector, b).judge(t, block)
	}
}
