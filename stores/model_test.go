package stores_test

import (
	"crypto/aes"
	"crypto/cipher"
	"crypto/hmac"
	"crypto/sha256"
	"encoding/binary"
	"slices"

	"caisson/api"
	"caisson/ledgers"
	"caisson/streams"
)

// model is a store by the definitions of the document. It calls none of the layers. A method that changes it returns another model, and leaves this one as it is.
type model struct {
	n        int
	counters []uint64
	limit    uint64
	reserve  uint64
	enc, mac []byte

	sectors [][]content // the contents that each sector had, the newest one last
	log     []api.Cell
	uses    []ledgers.Use

	poisoned bool
	records  []api.Record // of the blocks; none if it is poisoned
	changed  []bool       // which records are
	slots    []int        // of the places, by level and then by index
}

// content is what a sector has.
type content struct {
	there bool
	bytes string
}

// place is a place of the tree.
type place struct{ level, index int }

// counts returns how many places each level has.
func counts(n int) []int {
	l := []int{(n + 3) / 4}
	for l[len(l)-1] > 1 {
		l = append(l, (l[len(l)-1]+3)/4)
	}
	return l
}

// places returns all places by level, and then by index. The root is the last one.
func places(n int) []place {
	var l []place
	for level, count := range counts(n) {
		for index := range count {
			l = append(l, place{level, index})
		}
	}
	return l
}

// number returns how many places there are before a place.
func number(n int, p place) int {
	before := p.index
	for _, count := range counts(n)[:p.level] {
		before += count
	}
	return before
}

func rootOf(n int) place { return place{len(counts(n)) - 1, 0} }

func sizeOf(n int) int { return 2*n + 2*len(places(n)) }

func dataSector(i, slot int) int { return 2*i + slot }

func nodeSector(n int, p place, slot int) int { return 2*n + 2*number(n, p) + slot }

// blocksBelow returns the first block below a place, and one more than the last one.
func blocksBelow(n int, p place) (from, to int) {
	size := 4 << (2 * p.level)
	return p.index * size, min(n, (p.index+1)*size)
}

func tagOf(key []byte, parts ...[]byte) []byte {
	h := hmac.New(sha256.New, key)
	for _, part := range parts {
		h.Write(part)
	}
	return h.Sum(nil)
}

// modelOf returns the model at the beginning.
func modelOf(c api.Config) model {
	n := c.Blocks
	prk := tagOf([]byte("caisson"), c.Master[:])
	m := model{n: n, counters: make([]uint64, c.Shards), limit: c.Limit, reserve: c.Reserve}
	m.enc, m.mac = tagOf(prk, []byte("encrypt\x01"))[:16], tagOf(prk, []byte("mac\x01"))
	m.records, m.changed = make([]api.Record, n), make([]bool, n)
	m.slots = slices.Repeat([]int{1}, len(places(n)))
	m.slots[len(m.slots)-1] = 0
	m.sectors = make([][]content, sizeOf(n))
	root := m.bytesOf(rootOf(n))
	m.sectors[nodeSector(n, rootOf(n), 0)] = []content{{true, root}}
	m.log = []api.Cell{{Root: sha256.Sum256([]byte(root))}}
	return m
}

func (m model) cell() api.Cell { return m.log[len(m.log)-1] }

// now returns what a sector has.
func (m model) now(sector int) content {
	if l := m.sectors[sector]; len(l) > 0 {
		return l[len(l)-1]
	}
	return content{}
}

// with returns the model with one more content of a sector.
func (m model) with(sector int, c content) model {
	m.sectors = slices.Clone(m.sectors)
	m.sectors[sector] = append(slices.Clip(m.sectors[sector]), c)
	return m
}

// isDirty tells whether the node at a place is.
func (m model) isDirty(p place) bool {
	from, to := blocksBelow(m.n, p)
	return slices.Contains(m.changed[from:to], true)
}

// isUsed tells whether a block below a place was written.
func (m model) isUsed(p place) bool {
	from, to := blocksBelow(m.n, p)
	return slices.ContainsFunc(m.records[from:to], func(r api.Record) bool { return r.State != 0 })
}

// nextSlot returns the slot in which a node is after the next commit, if that does not move it in any case.
func (m model) nextSlot(p place) int {
	slot := m.slots[number(m.n, p)]
	if m.isDirty(p) {
		return 1 - slot
	}
	return slot
}

// bytesOf returns the bytes of the node at a place.
func (m model) bytesOf(p place) string {
	b := binary.BigEndian.AppendUint32([]byte{byte(p.level)}, uint32(p.index))
	for part := 4 * p.index; part < 4*p.index+4; part++ {
		switch {
		case p.level > 0:
			b = append(b, m.entryOf(place{p.level - 1, part})...)
		case part < m.n:
			b = append(b, recordBytes(m.records[part])...)
		default:
			b = append(b, make([]byte, 45)...)
		}
	}
	return string(b)
}

// entryOf returns the bytes of the entry of a place, which may be none.
func (m model) entryOf(p place) []byte {
	if p.index >= counts(m.n)[p.level] || !m.isUsed(p) {
		return make([]byte, 33)
	}
	digest := sha256.Sum256([]byte(m.bytesOf(p)))
	return append([]byte{byte(m.nextSlot(p) + 1)}, digest[:]...)
}

func nonceBytes(n api.Nonce) []byte {
	return binary.BigEndian.AppendUint64(binary.BigEndian.AppendUint32(nil, n.Shard), n.Counter)
}

func recordBytes(r api.Record) []byte {
	return slices.Concat([]byte{r.State}, nonceBytes(r.Nonce), r.Tag[:])
}

// recordOf returns the record that 45 bytes stand for.
func recordOf(b string) api.Record {
	return api.Record{State: b[0], Nonce: api.Nonce{Shard: binary.BigEndian.Uint32([]byte(b[1:5])), Counter: binary.BigEndian.Uint64([]byte(b[5:13]))}, Tag: api.Digest([]byte(b[13:45]))}
}

// cipherOf returns the exclusive or of 32 bytes and the key stream of a nonce.
func (m model) cipherOf(n api.Nonce, b []byte) []byte {
	c, _ := aes.NewCipher(m.enc)
	made := make([]byte, len(b))
	cipher.NewCTR(c, append(nonceBytes(n), 0, 0, 0, 0)).XORKeyStream(made, b)
	return made
}

// tag returns the tag of a ciphertext.
func (m model) tag(i int, n api.Nonce, b []byte) api.Digest {
	return api.Digest(tagOf(m.mac, binary.BigEndian.AppendUint32(nil, uint32(i)), nonceBytes(n), b))
}

// has tells whether the model has a block.
func (m model) has(i int) bool { return i >= 0 && i <= m.n-1 }

func (m model) read(i int) (model, api.Block, api.Errno) {
	if m.poisoned {
		return m, api.Block{}, api.ErrIntegrity
	}
	if !m.has(i) {
		return m, api.Block{}, api.ErrArg
	}
	r := m.records[i]
	if r.State == 0 {
		return m, api.Block{}, api.OK
	}
	c := m.now(dataSector(i, int(r.State)-1))
	if !c.there || len(c.bytes) != 32 || m.tag(i, r.Nonce, []byte(c.bytes)) != r.Tag {
		m.poisoned, m.records, m.changed, m.slots = true, nil, nil, nil
		return m, api.Block{}, api.ErrIntegrity
	}
	return m, api.Block(m.cipherOf(r.Nonce, []byte(c.bytes))), api.OK
}

// target returns the slot for the data of a block.
func (m model) target(i int) int {
	switch r := m.records[i]; {
	case r.State == 0:
		return 0
	case m.changed[i]:
		return int(r.State) - 1
	default:
		return 2 - int(r.State)
	}
}

func (m model) write(i int, data []byte) (model, api.Errno) {
	switch {
	case m.poisoned:
		return m, api.ErrIntegrity
	case !m.has(i) || len(data) != 32:
		return m, api.ErrArg
	case len(m.uses) >= 65536:
		return m, api.ErrLimit
	}
	shard, c := i%len(m.counters), m.cell()
	if m.counters[shard] == c.Mark {
		if m.reserve > m.limit-c.Mark {
			return m, api.ErrNonce
		}
		c.Mark += m.reserve
		m.log = append(slices.Clip(m.log), c)
	}
	n, slot := api.Nonce{Shard: uint32(shard), Counter: m.counters[shard]}, m.target(i)
	m.counters, m.records, m.changed = slices.Clone(m.counters), slices.Clone(m.records), slices.Clone(m.changed)
	m.counters[shard]++
	b := m.cipherOf(n, data)
	m.records[i] = api.Record{State: uint8(slot + 1), Nonce: n, Tag: m.tag(i, n, b)}
	m.changed[i] = true
	m.uses = append(slices.Clip(m.uses), ledgers.Use{Key: [16]byte(m.enc), Range: streams.Range{Nonce: n, First: 0, Last: 1}})
	return m.with(dataSector(i, slot), content{true, string(b)}), api.OK
}

func (m model) flush() (model, api.Errno) {
	if m.poisoned {
		return m, api.ErrIntegrity
	}
	c, slots := m.cell(), slices.Clone(m.slots)
	for k, p := range places(m.n) {
		if p == rootOf(m.n) || m.isDirty(p) {
			slots[k] = 1 - slots[k]
			m = m.with(nodeSector(m.n, p, slots[k]), content{true, m.bytesOf(p)})
		}
	}
	c.Root, c.Epoch = sha256.Sum256([]byte(m.bytesOf(rootOf(m.n)))), c.Epoch+1
	m.log = append(slices.Clip(m.log), c)
	m.slots, m.changed = slots, make([]bool, m.n)
	return m, api.OK
}

func (m model) crash() model {
	m.counters = slices.Repeat([]uint64{m.cell().Mark}, len(m.counters))
	m.records, m.changed = make([]api.Record, m.n), make([]bool, m.n)
	m.slots = slices.Repeat([]int{1}, len(places(m.n)))
	m.poisoned = !m.open(rootOf(m.n), int(m.cell().Epoch%2), m.cell().Root)
	if m.poisoned {
		m.records, m.changed, m.slots = nil, nil, nil
	}
	return m
}

// open reads the node at a place, and those below it, into the lists of the model. Nobody knows two strings with the same digest, so what has the right one is what was written.
func (m model) open(p place, slot int, digest api.Digest) bool {
	c := m.now(nodeSector(m.n, p, slot))
	if !c.there || sha256.Sum256([]byte(c.bytes)) != digest {
		return false
	}
	m.slots[number(m.n, p)] = slot
	for part := range 4 {
		if p.level == 0 && 4*p.index+part < m.n {
			m.records[4*p.index+part] = recordOf(c.bytes[5+45*part:])
		}
		if p.level > 0 {
			e := c.bytes[5+33*part : 5+33*part+33]
			if e[0] > 0 && !m.open(place{p.level - 1, 4*p.index + part}, int(e[0])-1, api.Digest([]byte(e[1:]))) {
				return false
			}
		}
	}
	return true
}

func (m model) hasSector(sector int) bool { return sector >= 0 && sector <= len(m.sectors)-1 }

func (m model) edit(sector int, b []byte) (model, api.Errno) {
	switch {
	case !m.hasSector(sector):
		return m, api.ErrArg
	case len(b) > 256:
		return m, api.ErrLimit
	}
	return m.with(sector, content{true, string(b)}), api.OK
}

func (m model) erase(sector int) (model, api.Errno) {
	if !m.hasSector(sector) {
		return m, api.ErrArg
	}
	return m.with(sector, content{}), api.OK
}

func (m model) replay(sector, back int) (model, api.Errno) {
	if !m.hasSector(sector) || back < 0 {
		return m, api.ErrArg
	}
	l := append([]content{{}}, m.sectors[sector]...)
	if back >= len(l) {
		return m, api.ErrNone
	}
	return m.with(sector, l[len(l)-1-back]), api.OK
}
