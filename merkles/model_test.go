package merkles_test

import (
	"crypto/sha256"
	"encoding/binary"
	"math"

	"caisson/api"
	"caisson/merkles"
	"caisson/shapes"
)

// What a tree and a proof are by the definitions, without any of the layers below.

// The numbers of blocks that the issue names.
var allNumbers = []int{1, 4, 5, 16, 17, 64, 65, 256, 257, 1024, 1025, 4096}

// Numbers of blocks that are small enough for tests of each node and each block, among them those with groups and nodes of one, two and three parts.
var smallNumbers = []int{1, 2, 3, 4, 5, 6, 7, 8, 9, 13, 15, 16, 17, 20, 21, 33}

var badNumbers = []int{0, -1, -2, -4, -5, -4096, 4097, 4098, 5000, 1 << 16, 1 << 32, 1<<32 + 1, 1<<32 + 5, 1 - 1<<32, math.MinInt, math.MinInt + 1, math.MaxInt - 1, math.MaxInt}

// drawer returns a function whose results are always the same sequence of numbers without a visible rule.
func drawer(seed uint64) func() uint64 {
	return func() uint64 {
		seed += 0x9e3779b97f4a7c15
		z := (seed ^ seed>>30) * 0xbf58476d1ce4e5b9
		z = (z ^ z>>27) * 0x94d049bb133111eb
		return z ^ z>>31
	}
}

// below returns a drawn number that is less than another one.
func below(draw func() uint64, n int) int { return int(draw() >> 11 % uint64(n)) }

// ascending returns a digest, each byte of which is one more than the one before it.
func ascending(first int) api.Digest {
	var d api.Digest
	for i := range d {
		d[i] = byte(first + i)
	}
	return d
}

// flipped returns a digest of which one bit is another one.
func flipped(d api.Digest, bit int) api.Digest {
	d[bit/8] ^= 1 << (bit % 8)
	return d
}

func place(level, index int) shapes.Place { return shapes.Place{Level: level, Index: index} }

// span returns how many blocks are below a place of a level if none is missing.
func span(level int) int { return 1 << (2 * (level + 1)) }

func wantCount(n, level int) int { return (n + span(level) - 1) / span(level) }

func wantHeight(n int) int {
	level := 0
	for wantCount(n, level) > 1 {
		level++
	}
	return level
}

// wantPlaces returns all places, by level and then by index.
func wantPlaces(n int) []shapes.Place {
	var l []shapes.Place
	for level := 0; level <= wantHeight(n); level++ {
		for index := 0; index < wantCount(n, level); index++ {
			l = append(l, place(level, index))
		}
	}
	return l
}

// wantNumber returns how many places there are before a place.
func wantNumber(n int, p shapes.Place) int {
	number := p.Index
	for level := 0; level < p.Level; level++ {
		number += wantCount(n, level)
	}
	return number
}

func hasPlace(n int, p shapes.Place) bool {
	return 0 <= p.Level && p.Level <= wantHeight(n) && 0 <= p.Index && p.Index < wantCount(n, p.Level)
}

// partsOf returns how many parts of a place exist.
func partsOf(n int, p shapes.Place) int {
	all := n
	if p.Level > 0 {
		all = wantCount(n, p.Level-1)
	}
	return min(4, all-4*p.Index)
}

// wantPath returns the places from the root to the group of a block.
func wantPath(n, block int) []shapes.Place {
	var l []shapes.Place
	for level := wantHeight(n); level >= 0; level-- {
		l = append(l, place(level, block/span(level)))
	}
	return l
}

// turn returns which part of the node of a level the path of a block goes on with.
func turn(level, block int) int { return block * 4 / span(level) % 4 }

// wantEmpty tells whether all records below a place have the State 0.
func wantEmpty(l []api.Record, p shapes.Place) bool {
	for block := p.Index * span(p.Level); block < min((p.Index+1)*span(p.Level), len(l)); block++ {
		if l[block].State != 0 {
			return false
		}
	}
	return true
}

// nodeBytes returns the bytes of a node, whether it is valid or not.
func nodeBytes(x api.Node) []byte {
	b := binary.BigEndian.AppendUint32([]byte{x.Level}, x.Index)
	for i := range 4 {
		if x.Level == 0 {
			r := x.Records[i]
			b = binary.BigEndian.AppendUint32(append(b, r.State), r.Nonce.Shard)
			b = append(binary.BigEndian.AppendUint64(b, r.Nonce.Counter), r.Tag[:]...)
		} else {
			b = append(append(b, x.Entries[i].State), x.Entries[i].Digest[:]...)
		}
	}
	return b
}

func digestOf(x api.Node) api.Digest { return sha256.Sum256(nodeBytes(x)) }

// source is what a tree is made from.
type source struct {
	n       int
	records []api.Record
	slots   []int
}

// node returns the node at a place, made from the records and slots below it.
func (s source) node(p shapes.Place) api.Node {
	x := api.Node{Level: uint8(p.Level), Index: uint32(p.Index)}
	for which := range partsOf(s.n, p) {
		i := 4*p.Index + which
		if p.Level == 0 {
			x.Records[which] = s.records[i]
			continue
		}
		child := place(p.Level-1, i)
		if !wantEmpty(s.records, child) {
			x.Entries[which] = api.Entry{State: uint8(s.slots[wantNumber(s.n, child)] + 1), Digest: digestOf(s.node(child))}
		}
	}
	return x
}

// tree returns the tree of the records and slots.
func (s source) tree() merkles.Tree {
	t := merkles.Tree{Blocks: s.n}
	for _, p := range wantPlaces(s.n) {
		t.Nodes = append(t.Nodes, s.node(p))
	}
	return t
}

func validRecord(r api.Record) bool {
	return r.State == 1 || r.State == 2 || r == api.Record{}
}

func validEntry(e api.Entry) bool {
	return e.State == 1 || e.State == 2 || e == api.Entry{}
}

// fits tells whether a node can stand at a place.
func fits(n int, p shapes.Place, x api.Node) bool {
	if int64(x.Level) != int64(p.Level) || int64(x.Index) != int64(p.Index) {
		return false
	}
	for i := range 4 {
		there := i < partsOf(n, p)
		if (p.Level > 0 || !there) && x.Records[i] != (api.Record{}) || (p.Level == 0 || !there) && x.Entries[i] != (api.Entry{}) {
			return false
		}
		if !validRecord(x.Records[i]) || !validEntry(x.Entries[i]) {
			return false
		}
	}
	return true
}

// wantRecords returns the records of the groups of a tree.
func wantRecords(t merkles.Tree) []api.Record {
	l := make([]api.Record, t.Blocks)
	for block := range l {
		l[block] = t.Nodes[block/4].Records[block%4]
	}
	return l
}

func wantCheck(t merkles.Tree) api.Errno {
	if t.Blocks < 1 || t.Blocks > 4096 || len(t.Nodes) != len(wantPlaces(t.Blocks)) {
		return api.ErrArg
	}
	l := wantRecords(t)
	for i, p := range wantPlaces(t.Blocks) {
		switch {
		case !fits(t.Blocks, p, t.Nodes[i]):
			return api.ErrFit
		case p.Level > 0 && !wantEntries(t, l, p, t.Nodes[i]):
			return api.ErrIntegrity
		}
	}
	return api.OK
}

// wantEntries tells whether the entries of a node are those of its children.
func wantEntries(t merkles.Tree, l []api.Record, p shapes.Place, x api.Node) bool {
	for which := range partsOf(t.Blocks, p) {
		child := place(p.Level-1, 4*p.Index+which)
		e, empty := x.Entries[which], wantEmpty(l, child)
		if zero := e == (api.Entry{}); zero != empty {
			return false
		}
		if !empty && e.Digest != digestOf(t.Nodes[wantNumber(t.Blocks, child)]) {
			return false
		}
	}
	return true
}

// wantProof returns the nodes of a tree down the path of a block, without those of empty subtrees below the root.
func wantProof(t merkles.Tree, block int) merkles.Proof {
	p := merkles.Proof{Block: block}
	for i, at := range wantPath(t.Blocks, block) {
		if i == 0 || !wantEmpty(wantRecords(t), at) {
			p.Nodes = append(p.Nodes, t.Nodes[wantNumber(t.Blocks, at)])
		}
	}
	return p
}

func wantVerify(n int, root api.Digest, p merkles.Proof) (api.Record, api.Errno) {
	if n < 1 || n > 4096 || p.Block < 0 || p.Block >= n {
		return api.Record{}, api.ErrArg
	}
	path := wantPath(n, p.Block)
	if len(p.Nodes) == 0 || len(p.Nodes) > len(path) {
		return api.Record{}, api.ErrArg
	}
	for i, x := range p.Nodes {
		level, last := path[i].Level, i == len(p.Nodes)-1
		before := root
		if i > 0 {
			before = p.Nodes[i-1].Entries[turn(level+1, p.Block)].Digest
		}
		switch next := x.Entries[turn(level, p.Block)]; {
		case !fits(n, path[i], x):
			return api.Record{}, api.ErrFit
		case digestOf(x) != before:
			return api.Record{}, api.ErrIntegrity
		case level > 0 && last && next != (api.Entry{}):
			return api.Record{}, api.ErrIntegrity
		case !last && next == (api.Entry{}):
			return api.Record{}, api.ErrIntegrity
		case level == 0:
			return x.Records[p.Block%4], api.OK
		}
	}
	return api.Record{}, api.OK
}

// fill says what the record of a block of a volume is.
type fill func(block, n int) api.Record

// written returns the record of a block that was written.
func written(block int) api.Record {
	return api.Record{State: uint8(1 + block/2%2), Nonce: api.Nonce{Shard: uint32(block % 8), Counter: 0x0102030405060708 + uint64(block)}, Tag: ascending(block)}
}

// where returns the fill that has written exactly the blocks for which a condition holds.
func where(holds func(block, n int) bool) fill {
	return func(block, n int) api.Record {
		if holds(block, n) {
			return written(block)
		}
		return api.Record{}
	}
}

func none(int, int) bool           { return false }
func all(int, int) bool            { return true }
func first(block, _ int) bool      { return block == 0 }
func last(block, n int) bool       { return block == n-1 }
func thirds(block, _ int) bool     { return block%3 == 2 }
func middle(block, n int) bool     { return block == n/2 }
func bothEnds(block, n int) bool   { return block == 0 || block == n-1 }
func oddGroups(block, _ int) bool  { return block/4%2 == 1 }
func upperHalf(block, n int) bool  { return block >= n/2 }
func butFirst(block, _ int) bool   { return block != 0 }
func butLast(block, n int) bool    { return block != n-1 }
func quarters(block, _ int) bool   { return block%4 == 0 }
func sixteenths(block, _ int) bool { return block/16%2 == 0 }

// fills are all ways in which the tests fill volumes; in the last one the blocks have records whose nonces and tags are zero.
func fills() []fill {
	var l []fill
	for _, holds := range []func(int, int) bool{none, all, first, last, thirds, middle, bothEnds, oddGroups, upperHalf, butFirst, butLast, quarters, sixteenths} {
		l = append(l, where(holds))
	}
	return append(l, func(block, _ int) api.Record { return api.Record{State: uint8(block % 3)} })
}

func recordsOf(n int, f fill) []api.Record {
	l := make([]api.Record, n)
	for block := range l {
		l[block] = f(block, n)
	}
	return l
}

// slotsOf returns the slots of all places by their numbers.
func slotsOf(n int, slot func(number int) int) []int {
	l := make([]int, len(wantPlaces(n)))
	for number := range l {
		l[number] = slot(number)
	}
	return l
}

func zeros(int) int         { return 0 }
func ones(int) int          { return 1 }
func alternating(i int) int { return i % 2 }
func eachThird(i int) int   { return i % 3 % 2 }
func drawnSlots(i int) int  { return int(drawer(uint64(i))() >> 40 & 1) }
func sourceOf(n int, f fill) source {
	return source{n, recordsOf(n, f), slotsOf(n, drawnSlots)}
}

func treeOf(n int, f fill) merkles.Tree { return sourceOf(n, f).tree() }
