package updates_test

import (
	"crypto/sha256"
	"encoding/binary"
	"math"
	"slices"

	"caisson/api"
	"caisson/merkles"
	"caisson/shapes"
	"caisson/updates"
)

// What a working tree is by the definitions, without any of the layers below.

// The numbers of blocks at which a tree gets another height, or another number of groups.
var allNumbers = []int{1, 4, 5, 16, 17, 64, 65, 256, 257, 1024, 1025, 4096}

// Numbers of blocks that are small enough for tests of each node and each block, among them those with groups and nodes of one, two and three parts.
var smallNumbers = []int{1, 2, 3, 4, 5, 6, 7, 8, 9, 13, 15, 16, 17, 20, 21, 33}

var badNumbers = []int{0, -1, -2, -4, -5, -4096, 4097, 4098, 5000, 1 << 16, 1 << 32, 1<<32 + 1, 1<<32 + 5, 1 - 1<<32, math.MinInt, math.MinInt + 1, math.MaxInt - 1, math.MaxInt}

// badSlots are numbers that are no slots.
var badSlots = []int{-1, 2, -2, 3, 4, 255, 256, 257, 1 << 32, 1<<32 + 1, 1 - 1<<32, math.MinInt, math.MinInt + 1, math.MaxInt - 1, math.MaxInt}

// badBlocks returns blocks that do not exist.
func badBlocks(n int) []int {
	return []int{-1, -2, -n, n, n + 1, n + 3, 4097, 1 << 16, 1 << 32, 1<<32 + 1, -1 << 32, 1 - 1<<32, math.MinInt, math.MinInt + 1, math.MaxInt - 1, math.MaxInt}
}

// drawer returns a function whose results are always the same sequence of numbers without a visible rule.
func drawer(seed uint64) func(n int) int {
	return func(n int) int {
		seed += 0x9e3779b97f4a7c15
		z := (seed ^ seed>>30) * 0xbf58476d1ce4e5b9
		z = (z ^ z>>27) * 0x94d049bb133111eb
		return int((z ^ z>>31) >> 11 % uint64(n))
	}
}

// ascending returns a digest, each byte of which is one more than the one before it.
func ascending(first int) api.Digest {
	var d api.Digest
	for i := range d {
		d[i] = byte(first + i)
	}
	return d
}

// flipped returns a digest of which one bit is another one.
func flipped(d api.Digest, bit int) api.Digest {
	d[bit/8] ^= 1 << (bit % 8)
	return d
}

func place(level, index int) shapes.Place { return shapes.Place{Level: level, Index: index} }

// span returns how many blocks are below a place of a level if none is missing.
func span(level int) int { return 1 << (2 * (level + 1)) }

func countOf(n, level int) int { return (n + span(level) - 1) / span(level) }

func heightOf(n int) int {
	level := 0
	for countOf(n, level) > 1 {
		level++
	}
	return level
}

// places returns all places, by level and then by index.
func places(n int) []shapes.Place {
	var l []shapes.Place
	for level := 0; level <= heightOf(n); level++ {
		for index := 0; index < countOf(n, level); index++ {
			l = append(l, place(level, index))
		}
	}
	return l
}

// numberOf returns how many places there are before a place.
func numberOf(n int, p shapes.Place) int {
	number := p.Index
	for level := range p.Level {
		number += countOf(n, level)
	}
	return number
}

// partsOf returns how many parts of a place exist.
func partsOf(n int, p shapes.Place) int {
	all := n
	if p.Level > 0 {
		all = countOf(n, p.Level-1)
	}
	return min(4, all-4*p.Index)
}

// below returns the first block below a place, and one more than the last one.
func below(n int, p shapes.Place) (from, to int) {
	return p.Index * span(p.Level), min((p.Index+1)*span(p.Level), n)
}

// nodeBytes returns the bytes of a node, whether it is valid or not.
func nodeBytes(x api.Node) []byte {
	b := binary.BigEndian.AppendUint32([]byte{x.Level}, x.Index)
	for i := range 4 {
		if x.Level == 0 {
			r := x.Records[i]
			b = binary.BigEndian.AppendUint32(append(b, r.State), r.Nonce.Shard)
			b = append(binary.BigEndian.AppendUint64(b, r.Nonce.Counter), r.Tag[:]...)
		} else {
			b = append(append(b, x.Entries[i].State), x.Entries[i].Digest[:]...)
		}
	}
	return b
}

func digestOf(x api.Node) api.Digest { return sha256.Sum256(nodeBytes(x)) }

// state is what a working tree is made from: each valid one is the tree of exactly one state.
type state struct {
	n       int
	records []api.Record
	changed []bool
	slots   []int // the committed ones, by the numbers of the places
}

// isEmpty tells whether no record below a place has a State.
func (s state) isEmpty(p shapes.Place) bool {
	from, to := below(s.n, p)
	return !slices.ContainsFunc(s.records[from:to], func(r api.Record) bool { return r.State != 0 })
}

// isDirty tells whether a record below a place is changed.
func (s state) isDirty(p shapes.Place) bool {
	from, to := below(s.n, p)
	return slices.Contains(s.changed[from:to], true)
}

// slotOf returns the slot that the entry of a place has.
func (s state) slotOf(p shapes.Place) int {
	slot := s.slots[numberOf(s.n, p)]
	if s.isDirty(p) {
		return 1 - slot
	}
	return slot
}

// tree returns the working tree of a state.
func (s state) tree() updates.Tree {
	t := updates.Tree{Blocks: s.n}
	for number, p := range places(s.n) {
		x := updates.Node{Node: api.Node{Level: uint8(p.Level), Index: uint32(p.Index)}, Slot: s.slots[number], Dirty: s.isDirty(p)}
		for which := range partsOf(s.n, p) {
			i := 4*p.Index + which
			if p.Level == 0 {
				x.Node.Records[which], x.Changed[which] = s.records[i], s.changed[i]
				continue
			}
			if child := place(p.Level-1, i); !s.isEmpty(child) {
				x.Node.Entries[which] = api.Entry{State: uint8(1 + s.slotOf(child)), Digest: digestOf(t.Nodes[numberOf(s.n, child)].Node)}
			}
		}
		t.Nodes = append(t.Nodes, x)
	}
	return t
}

// merkle returns the nodes of the tree of a state, and the slots that its entries have.
func (s state) merkle() (merkles.Tree, []int) {
	t, slots := merkles.Tree{Blocks: s.n}, []int(nil)
	for number, x := range s.tree().Nodes {
		t.Nodes, slots = append(t.Nodes, x.Node), append(slots, s.slotOf(places(s.n)[number]))
	}
	return t, slots
}

// dirty returns the places whose nodes are dirty.
func (s state) dirty() []shapes.Place {
	return slices.DeleteFunc(places(s.n), func(p shapes.Place) bool { return !s.isDirty(p) })
}

func (s state) target(block int) int {
	switch r := s.records[block]; {
	case r.State == 0:
		return 0
	case s.changed[block]:
		return int(r.State) - 1
	default:
		return 2 - int(r.State)
	}
}

func (s state) copied() state {
	return state{s.n, slices.Clone(s.records), slices.Clone(s.changed), slices.Clone(s.slots)}
}

// set returns the state in which the record of a block is set.
func (s state) set(block int, n api.Nonce, tag api.Digest) state {
	made := s.copied()
	made.records[block] = api.Record{State: uint8(1 + s.target(block)), Nonce: n, Tag: tag}
	made.changed[block] = true
	return made
}

// published returns the state after a commit.
func (s state) published() state {
	made := s.copied()
	for number, p := range places(s.n) {
		if s.isDirty(p) || p.Level == heightOf(s.n) {
			made.slots[number] = 1 - s.slots[number]
		}
	}
	clear(made.changed)
	return made
}

// stateOf returns the state of a valid tree.
func stateOf(t updates.Tree) state {
	s := state{n: t.Blocks}
	for block := range t.Blocks {
		group := t.Nodes[block/4]
		s.records, s.changed = append(s.records, group.Node.Records[block%4]), append(s.changed, group.Changed[block%4])
	}
	for _, x := range t.Nodes {
		s.slots = append(s.slots, x.Slot)
	}
	return s
}

func validRecord(r api.Record) bool {
	return r.State == 1 || r.State == 2 || r == api.Record{}
}

func validEntry(e api.Entry) bool {
	return e.State == 1 || e.State == 2 || e == api.Entry{}
}

// fits tells whether a node can stand at a place.
func fits(n int, p shapes.Place, x api.Node) bool {
	if int64(x.Level) != int64(p.Level) || int64(x.Index) != int64(p.Index) {
		return false
	}
	for i := range 4 {
		there := i < partsOf(n, p)
		if (p.Level > 0 || !there) && x.Records[i] != (api.Record{}) || (p.Level == 0 || !there) && x.Entries[i] != (api.Entry{}) {
			return false
		}
		if !validRecord(x.Records[i]) || !validEntry(x.Entries[i]) {
			return false
		}
	}
	return true
}

func isSlot(slot int) bool { return slot == 0 || slot == 1 }

// hasNodes tells whether there may be a tree of so many blocks with so many nodes.
func hasNodes(n, count int) bool { return 1 <= n && n <= 4096 && count == len(places(n)) }

// wantCheck returns the error of a working tree.
func wantCheck(t updates.Tree) api.Errno {
	if !hasNodes(t.Blocks, len(t.Nodes)) {
		return api.ErrArg
	}
	for _, x := range t.Nodes {
		if !isSlot(x.Slot) {
			return api.ErrArg
		}
	}
	s := stateOf(t)
	for number, p := range places(t.Blocks) {
		x := t.Nodes[number]
		switch {
		case !fits(t.Blocks, p, x.Node):
			return api.ErrFit
		case !wantMarks(t, p, x) || !wantEntries(t, s, p, x):
			return api.ErrIntegrity
		}
	}
	return api.OK
}

// wantMarks tells whether Dirty and Changed of a node are as they have to be.
func wantMarks(t updates.Tree, p shapes.Place, x updates.Node) bool {
	dirty := false
	for which, changed := range x.Changed {
		if changed && (p.Level > 0 || which >= partsOf(t.Blocks, p) || x.Node.Records[which].State == 0) {
			return false
		}
		dirty = dirty || changed
	}
	if p.Level > 0 {
		dirty = false
		for which := range partsOf(t.Blocks, p) {
			dirty = dirty || t.Nodes[numberOf(t.Blocks, place(p.Level-1, 4*p.Index+which))].Dirty
		}
	}
	return x.Dirty == dirty
}

// wantEntries tells whether the entries of a node are those of its children; the state has the records of the tree.
func wantEntries(t updates.Tree, s state, p shapes.Place, x updates.Node) bool {
	if p.Level == 0 {
		return true
	}
	for which := range partsOf(t.Blocks, p) {
		child := place(p.Level-1, 4*p.Index+which)
		var want api.Entry
		if !s.isEmpty(child) {
			y := t.Nodes[numberOf(t.Blocks, child)]
			want = api.Entry{State: uint8(1 + y.Slot), Digest: digestOf(y.Node)}
			if y.Dirty {
				want.State = uint8(2 - y.Slot)
			}
		}
		if x.Node.Entries[which] != want {
			return false
		}
	}
	return true
}

// wantMerkle returns the error of a tree of layer 16, whatever slots it has.
func wantMerkle(t merkles.Tree) api.Errno {
	if !hasNodes(t.Blocks, len(t.Nodes)) {
		return api.ErrArg
	}
	bare := updates.Tree{Blocks: t.Blocks}
	for _, x := range t.Nodes {
		bare.Nodes = append(bare.Nodes, updates.Node{Node: x})
	}
	// Each child has the slot that the entry above it says.
	for number, p := range places(t.Blocks) {
		for which := range 4 {
			if p.Level > 0 && which < partsOf(t.Blocks, p) && t.Nodes[number].Entries[which].State == 2 {
				bare.Nodes[numberOf(t.Blocks, place(p.Level-1, 4*p.Index+which))].Slot = 1
			}
		}
	}
	return wantCheck(bare)
}

// wantOf returns the working tree of a tree and slots, or its error.
func wantOf(t merkles.Tree, slots []int) (updates.Tree, api.Errno) {
	if e := wantMerkle(t); e != api.OK {
		return updates.Tree{}, e
	}
	if len(slots) != len(t.Nodes) || slices.ContainsFunc(slots, func(slot int) bool { return !isSlot(slot) }) {
		return updates.Tree{}, api.ErrArg
	}
	made := updates.Tree{Blocks: t.Blocks}
	for number, x := range t.Nodes {
		made.Nodes = append(made.Nodes, updates.Node{Node: x, Slot: slots[number]})
	}
	for number, p := range places(t.Blocks) {
		for which, e := range t.Nodes[number].Entries {
			if e != (api.Entry{}) && int(e.State) != slots[numberOf(t.Blocks, place(p.Level-1, 4*p.Index+which))]+1 {
				return updates.Tree{}, api.ErrIntegrity
			}
		}
	}
	return made, api.OK
}

// mark says of each block what its record is, and whether it is changed: 0 it was never written, 1 and 2 it is in slot 0 or 1, 3 and 4 it is so, and changed.
type mark func(block, n int) int

func none(int, int) int { return 0 }

// where returns the mark of the blocks for which a condition holds; the others have another one.
func where(then, otherwise int, holds func(block, n int) bool) mark {
	return func(block, n int) int {
		if holds(block, n) {
			return then
		}
		return otherwise
	}
}

func all(int, int) bool           { return true }
func first(block, _ int) bool     { return block == 0 }
func last(block, n int) bool      { return block == n-1 }
func bothEnds(block, n int) bool  { return block == 0 || block == n-1 }
func thirds(block, _ int) bool    { return block%3 == 2 }
func quarters(block, _ int) bool  { return block%4 == 0 }
func oneGroup(block, n int) bool  { return block/4 == n/8 }
func oddGroups(block, _ int) bool { return block/4%2 == 1 }
func upperHalf(block, n int) bool { return block >= n/2 }
func drawnMark(block, n int) int  { return drawer(uint64(block*4099 + n))(5) }
func cycle(block, _ int) int      { return block % 5 }

// marks are all ways in which the tests mark the blocks of trees: in some nothing is written, or nothing is changed.
func marks() []mark {
	l := []mark{none, drawnMark, cycle}
	for i, holds := range []func(int, int) bool{all, first, last, bothEnds, thirds, quarters, oneGroup, oddGroups, upperHalf} {
		l = append(l, where(1+i%2, 0, holds), where(3+i%2, 0, holds), where(4-i%2, 2-i%2, holds), where(1+i%2, 3+i%2, holds))
	}
	return l
}

// recordOf returns the record of a block in a State.
func recordOf(block int, state uint8) api.Record {
	if state == 0 {
		return api.Record{}
	}
	return api.Record{State: state, Nonce: api.Nonce{Shard: uint32(block % 8), Counter: 0x0102030405060708 + uint64(block)}, Tag: ascending(block)}
}

// stateWith returns a state whose blocks have the marks, and whose places have the slots of their numbers.
func stateWith(n int, m mark, slot func(number int) int) state {
	s := state{n: n}
	for block := range n {
		x := m(block, n)
		s.records = append(s.records, recordOf(block, []uint8{0, 1, 2, 1, 2}[x]))
		s.changed = append(s.changed, x > 2)
	}
	for number := range places(n) {
		s.slots = append(s.slots, slot(number))
	}
	return s
}

func zeros(int) int         { return 0 }
func ones(int) int          { return 1 }
func alternating(i int) int { return i % 2 }
func eachThird(i int) int   { return i % 3 % 2 }
func drawnSlots(i int) int  { return drawer(uint64(i))(2) }

// slotRules are all ways in which the tests give slots to places.
func slotRules() []func(int) int {
	return []func(int) int{zeros, ones, alternating, eachThird, drawnSlots}
}
