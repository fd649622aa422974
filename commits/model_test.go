package commits_test

import (
	"crypto/aes"
	"crypto/cipher"
	"crypto/hmac"
	"crypto/sha256"
	"encoding/binary"
	"math"
	"slices"

	"caisson/api"
	"caisson/commits"
	"caisson/derives"
	"caisson/shapes"
	"caisson/updates"
)

// What is written for a commit by the definitions, without any of the layers below.

// The numbers of blocks at which a tree gets another height, or another number of groups.
var allNumbers = []int{1, 4, 5, 16, 17, 64, 65, 256, 257, 1024, 1025, 4096}

// Numbers of blocks that are small enough for tests of each node and each block, among them those with groups and nodes of one, two and three parts.
var smallNumbers = []int{1, 2, 3, 4, 5, 6, 7, 8, 9, 13, 15, 16, 17, 20, 21, 33}

var badNumbers = []int{0, -1, -4, -4096, 4097, 5000, 1 << 16, 1 << 32, 1<<32 + 5, 1 - 1<<32, math.MinInt, math.MinInt + 1, math.MaxInt - 1, math.MaxInt}

// badSlots are numbers that are no slots.
var badSlots = []int{-1, 2, -2, 3, 256, 257, 1 << 32, 1<<32 + 1, math.MinInt, math.MaxInt}

// badBlocks returns blocks that do not exist.
func badBlocks(n int) []int {
	return []int{-1, -2, -n, n, n + 1, n + 3, 4096, 4097, 1 << 16, 1 << 32, 1<<32 + 1, -1 << 32, 1 - 1<<32, math.MinInt, math.MinInt + 1, math.MaxInt - 1, math.MaxInt}
}

// drawer returns a function whose results are always the same sequence of numbers without a visible rule.
func drawer(seed uint64) func(n int) int {
	return func(n int) int {
		seed += 0x9e3779b97f4a7c15
		z := (seed ^ seed>>30) * 0xbf58476d1ce4e5b9
		z = (z ^ z>>27) * 0x94d049bb133111eb
		return int((z ^ z>>31) >> 11 % uint64(n))
	}
}

func place(level, index int) shapes.Place { return shapes.Place{Level: level, Index: index} }

// span returns how many blocks are below a place of a level if none is missing.
func span(level int) int { return 1 << (2 * (level + 1)) }

func countOf(n, level int) int { return (n + span(level) - 1) / span(level) }

func heightOf(n int) int {
	level := 0
	for countOf(n, level) > 1 {
		level++
	}
	return level
}

// places returns all places, by level and then by index.
func places(n int) []shapes.Place {
	var l []shapes.Place
	for level := 0; level <= heightOf(n); level++ {
		for index := 0; index < countOf(n, level); index++ {
			l = append(l, place(level, index))
		}
	}
	return l
}

// numberOf returns how many places there are before a place.
func numberOf(n int, p shapes.Place) int {
	number := p.Index
	for level := range p.Level {
		number += countOf(n, level)
	}
	return number
}

func dataSector(block, slot int) int { return 2*block + slot }

func nodeSector(n int, p shapes.Place, slot int) int { return 2*(n+numberOf(n, p)) + slot }

// rootSector returns the sector of the root in a slot.
func rootSector(n, slot int) int { return nodeSector(n, place(heightOf(n), 0), slot) }

// sizeOf returns how many sectors the disk of a number of blocks has.
func sizeOf(n int) int { return rootSector(n, 1) + 1 }

// partsOf returns how many parts of a place exist.
func partsOf(n int, p shapes.Place) int {
	all := n
	if p.Level > 0 {
		all = countOf(n, p.Level-1)
	}
	return min(4, all-4*p.Index)
}

// below returns the first block below a place, and one more than the last one.
func below(n int, p shapes.Place) (from, to int) {
	return p.Index * span(p.Level), min((p.Index+1)*span(p.Level), n)
}

// nodeBytes returns the bytes of a node.
func nodeBytes(x api.Node) []byte {
	b := binary.BigEndian.AppendUint32([]byte{x.Level}, x.Index)
	for i := range 4 {
		if x.Level == 0 {
			r := x.Records[i]
			b = append(append(append(b, r.State), nonceBytes(r.Nonce)...), r.Tag[:]...)
		} else {
			b = append(append(b, x.Entries[i].State), x.Entries[i].Digest[:]...)
		}
	}
	return b
}

func nonceBytes(n api.Nonce) []byte {
	return binary.BigEndian.AppendUint64(binary.BigEndian.AppendUint32(nil, n.Shard), n.Counter)
}

func digestOf(x api.Node) api.Digest { return sha256.Sum256(nodeBytes(x)) }

// seal returns the ciphertext and the tag of a block.
func seal(k derives.Keys, block int, n api.Nonce, plain api.Block) (data []byte, tag api.Digest) {
	c, err := aes.NewCipher(k.Enc[:])
	if err != nil {
		panic(err)
	}
	data = make([]byte, len(plain))
	cipher.NewCTR(c, append(nonceBytes(n), 0, 0, 0, 0)).XORKeyStream(data, plain[:])
	h := hmac.New(sha256.New, k.Mac[:])
	h.Write(slices.Concat(binary.BigEndian.AppendUint32(nil, uint32(block)), nonceBytes(n), data))
	return data, api.Digest(h.Sum(nil))
}

func keysOf(first byte) derives.Keys {
	var k derives.Keys
	for i := range k.Enc {
		k.Enc[i] = first + byte(i)
	}
	for i := range k.Mac {
		k.Mac[i] = first ^ byte(5*i+1)
	}
	return k
}

// keys are those with which the data of all states is sealed.
var keys = keysOf(0x31)

func nonceOf(block int) api.Nonce {
	return api.Nonce{Shard: uint32(block % 8), Counter: 0x0102030405060708 + uint64(block)}
}

func plainOf(block int) api.Block {
	var b api.Block
	for i := range b {
		b[i] = byte(block*7 + i)
	}
	b[30], b[31] = byte(block>>8), byte(block)
	return b
}

// state is what a working tree is made from: each valid one is the tree of exactly one state.
type state struct {
	n       int
	records []api.Record
	changed []bool
	slots   []int // the committed ones, by the numbers of the places
}

// isEmpty tells whether no record below a place has a State.
func (s state) isEmpty(p shapes.Place) bool {
	from, to := below(s.n, p)
	return !slices.ContainsFunc(s.records[from:to], func(r api.Record) bool { return r.State != 0 })
}

// isDirty tells whether a record below a place is changed.
func (s state) isDirty(p shapes.Place) bool {
	from, to := below(s.n, p)
	return slices.Contains(s.changed[from:to], true)
}

// slotOf returns the slot that the entry of a place has.
func (s state) slotOf(p shapes.Place) int {
	slot := s.slots[numberOf(s.n, p)]
	if s.isDirty(p) {
		return 1 - slot
	}
	return slot
}

// rootSlot returns the committed slot of the root.
func (s state) rootSlot() int { return s.slots[len(s.slots)-1] }

// tree returns the working tree of a state.
func (s state) tree() updates.Tree {
	t := updates.Tree{Blocks: s.n}
	for number, p := range places(s.n) {
		x := updates.Node{Node: api.Node{Level: uint8(p.Level), Index: uint32(p.Index)}, Slot: s.slots[number], Dirty: s.isDirty(p)}
		for which := range partsOf(s.n, p) {
			i := 4*p.Index + which
			if p.Level == 0 {
				x.Node.Records[which], x.Changed[which] = s.records[i], s.changed[i]
				continue
			}
			if child := place(p.Level-1, i); !s.isEmpty(child) {
				x.Node.Entries[which] = api.Entry{State: uint8(1 + s.slotOf(child)), Digest: digestOf(t.Nodes[numberOf(s.n, child)].Node)}
			}
		}
		t.Nodes = append(t.Nodes, x)
	}
	return t
}

func (s state) target(block int) int {
	switch r := s.records[block]; {
	case r.State == 0:
		return 0
	case s.changed[block]:
		return int(r.State) - 1
	default:
		return 2 - int(r.State)
	}
}

func (s state) copied() state {
	return state{s.n, slices.Clone(s.records), slices.Clone(s.changed), slices.Clone(s.slots)}
}

// put returns the state in which a block is sealed and set, and the write of its data.
func (s state) put(k derives.Keys, block int, n api.Nonce, plain api.Block) (state, commits.Write) {
	made, slot := s.copied(), s.target(block)
	data, tag := seal(k, block, n, plain)
	made.records[block] = api.Record{State: uint8(1 + slot), Nonce: n, Tag: tag}
	made.changed[block] = true
	return made, commits.Write{Sector: dataSector(block, slot), Bytes: data}
}

// plan returns the writes of a plan for the tree of a state.
func (s state) plan() []commits.Write {
	var l []commits.Write
	tree := s.tree()
	for number, p := range places(s.n) {
		if s.isDirty(p) || p.Level == heightOf(s.n) {
			l = append(l, commits.Write{Sector: nodeSector(s.n, p, 1-s.slots[number]), Bytes: nodeBytes(tree.Nodes[number].Node)})
		}
	}
	return l
}

// wantPlan returns what Plan returns for the tree of a state and a cell.
func (s state) wantPlan(c api.Cell) ([]commits.Write, api.Cell, api.Errno) {
	switch {
	case int(c.Epoch&1) != s.rootSlot():
		return nil, api.Cell{}, api.ErrArg
	case c.Epoch == math.MaxUint64:
		return nil, api.Cell{}, api.ErrLimit
	}
	l := s.plan()
	return l, api.Cell{Root: sha256.Sum256(l[len(l)-1].Bytes), Epoch: c.Epoch + 1, Mark: c.Mark}, api.OK
}

// kept returns the kept sectors of the tree of a state.
func (s state) kept() []int {
	var l []int
	for block := range s.n {
		l = append(l, dataSector(block, 1-s.target(block)))
	}
	for number, p := range places(s.n) {
		l = append(l, nodeSector(s.n, p, s.slots[number]))
	}
	return l
}

// mark says of each block what its record is, and whether it is changed: 0 it was never written, 1 and 2 it is in slot 0 or 1, 3 and 4 it is so, and changed.
type mark func(block, n int) int

func none(int, int) int { return 0 }

// where returns the mark of the blocks for which a condition holds; the others have another one.
func where(then, otherwise int, holds func(block, n int) bool) mark {
	return func(block, n int) int {
		if holds(block, n) {
			return then
		}
		return otherwise
	}
}

func all(int, int) bool           { return true }
func first(block, _ int) bool     { return block == 0 }
func last(block, n int) bool      { return block == n-1 }
func bothEnds(block, n int) bool  { return block == 0 || block == n-1 }
func thirds(block, _ int) bool    { return block%3 == 2 }
func quarters(block, _ int) bool  { return block%4 == 0 }
func oneGroup(block, n int) bool  { return block/4 == n/8 }
func oddGroups(block, _ int) bool { return block/4%2 == 1 }
func upperHalf(block, n int) bool { return block >= n/2 }
func drawnMark(block, n int) int  { return drawer(uint64(block*4099 + n))(5) }
func cycle(block, _ int) int      { return block % 5 }

// marks are all ways in which the tests mark the blocks of trees: in some nothing is written, or nothing is changed.
func marks() []mark {
	l := []mark{none, drawnMark, cycle}
	for i, holds := range []func(int, int) bool{all, first, last, bothEnds, thirds, quarters, oneGroup, oddGroups, upperHalf} {
		l = append(l, where(1+i%2, 0, holds), where(3+i%2, 0, holds), where(4-i%2, 2-i%2, holds), where(1+i%2, 3+i%2, holds))
	}
	return l
}

// stateWith returns a state whose blocks have the marks, and whose places have the slots of their numbers.
func stateWith(n int, m mark, slot func(number int) int) state {
	s := state{n: n}
	for block := range n {
		var r api.Record
		x := m(block, n)
		if x > 0 {
			_, tag := seal(keys, block, nonceOf(block), plainOf(block))
			r = api.Record{State: uint8(2 - x%2), Nonce: nonceOf(block), Tag: tag}
		}
		s.records, s.changed = append(s.records, r), append(s.changed, x > 2)
	}
	for number := range places(n) {
		s.slots = append(s.slots, slot(number))
	}
	return s
}

// rooted returns the state whose root has another slot.
func (s state) rooted(slot int) state {
	made := s.copied()
	made.slots[len(made.slots)-1] = slot
	return made
}

func zeros(int) int         { return 0 }
func ones(int) int          { return 1 }
func alternating(i int) int { return i % 2 }
func eachThird(i int) int   { return i % 3 % 2 }
func drawnSlots(i int) int  { return drawer(uint64(i))(2) }

// slotRules are all ways in which the tests give slots to places.
func slotRules() []func(int) int {
	return []func(int) int{zeros, ones, alternating, eachThird, drawnSlots}
}
