package loads_test

import (
	"math"
	"slices"
	"testing"

	"caisson/api"
	"caisson/derives"
	"caisson/loads"
)

// stored returns a volume on whose disk there is nothing but the data of one block, and its record. The cell is that of no volume.
func stored(t *testing.T, n, block int, state uint8) (volume, api.Record) {
	t.Helper()
	v := volume{n: n, keys: keysOf(0x77)}
	data, tag := seal(v.keys, block, nonceOf(block), plainOf(block))
	v.sectors = map[int][]byte{dataSector(block, int(state)-1): data}
	v.disk = diskOf(t, sizeOf(n), v.sectors)
	return v, api.Record{State: state, Nonce: nonceOf(block), Tag: tag}
}

// P17.3: blocks of records in either slot, of all blocks, and of the zero record; no tree is asked.
func TestData(t *testing.T) {
	for _, n := range allNumbers {
		for _, block := range []int{0, 1, 2, 3, 4, 5, n / 2, n - 2, n - 1} {
			if block < 0 || block >= n {
				continue
			}
			for state := uint8(1); state <= 2; state++ {
				v, r := stored(t, n, block, state)
				sector := 2*block + int(state) - 1
				v.checkData(t, block, r, good(plainOf(block)))
				v.checkData(t, block, api.Record{}, good(api.Block{}))
				v.without(t, sector).checkData(t, block, r, refused[api.Block](sector, loads.Absent))
				v.without(t, sector).checkData(t, block, api.Record{}, good(api.Block{}))
				v.checkBlock(t, block, refused[api.Block](rootSector(n, 0), loads.Absent))
				r.State = 3 - state
				v.checkData(t, block, r, refused[api.Block](sector^1, loads.Absent))
				v.with(t, sector^1, v.sectors[sector]).checkData(t, block, r, good(plainOf(block)))
				v.checkDisk(t)
			}
		}
	}
}

// P17.3: data of all lengths.
func TestDataSizes(t *testing.T) {
	for state := uint8(1); state <= 2; state++ {
		v, r := stored(t, 5, 3, state)
		sector := 6 + int(state) - 1
		whole := v.sectors[sector]
		for size := range api.MaxSector + 1 {
			b := append(slices.Clone(whole[:min(size, 32)]), make([]byte, max(0, size-32))...)
			if size != 32 {
				v.with(t, sector, b).checkData(t, 3, r, refused[api.Block](sector, loads.Wide))
				v.with(t, sector, plainBytes(size)).checkData(t, 3, r, refused[api.Block](sector, loads.Wide))
			}
			v.with(t, sector, b).checkData(t, 3, api.Record{}, good(api.Block{}))
			v.with(t, sector^1, b).checkData(t, 3, r, good(plainOf(3)))
		}
		v.with(t, sector, plainBytes(32)).checkData(t, 3, r, refused[api.Block](sector, loads.Forged))
		v.with(t, sector, make([]byte, 32)).checkData(t, 3, r, refused[api.Block](sector, loads.Forged))
	}
}

// P17.3: each bit of the data, of the tag and of the nonce counts.
func TestDataBits(t *testing.T) {
	for state := uint8(1); state <= 2; state++ {
		v, r := stored(t, 17, 9, state)
		sector := 18 + int(state) - 1
		forged := refused[api.Block](sector, loads.Forged)
		for bit := range 256 {
			b := slices.Clone(v.sectors[sector])
			b[bit/8] ^= 1 << (bit % 8)
			v.with(t, sector, b).checkData(t, 9, r, forged)
			other := r
			other.Tag[bit/8] ^= 1 << (bit % 8)
			v.checkData(t, 9, other, forged)
		}
		for bit := range 64 {
			other := r
			other.Nonce.Counter ^= 1 << bit
			v.checkData(t, 9, other, forged)
			if bit < 32 {
				other = r
				other.Nonce.Shard ^= 1 << bit
				v.checkData(t, 9, other, forged)
			}
		}
		v.checkData(t, 9, api.Record{State: state}, forged)
		v.checkData(t, 9, api.Record{State: state, Tag: r.Tag}, forged)
		v.checkData(t, 9, api.Record{State: state, Nonce: r.Nonce}, forged)
	}
}

// P17.3: the data of a block is not accepted as that of another one, with the record of that one or its own.
func TestDataOfOthers(t *testing.T) {
	v := full(t, 9)
	for from, r := range v.records {
		data := v.sectors[dataSector(from, int(r.State)-1)]
		for to, own := range v.records {
			sector := dataSector(to, int(own.State)-1)
			w := v.with(t, sector, data)
			if from == to {
				w.checkStored(t, to)
				continue
			}
			w.checkData(t, to, own, refused[api.Block](sector, loads.Forged))
			w.checkRecord(t, to, good(own))
			w.checkBlock(t, to, refused[api.Block](sector, loads.Forged))
			r.State = own.State
			w.checkData(t, to, r, refused[api.Block](sector, loads.Forged))
		}
	}
}

// P17.3: the key for tags decides what is accepted, the one for encryption what is returned.
func TestDataKeys(t *testing.T) {
	v, r := stored(t, 5, 4, 2)
	for bit := range 256 {
		w := v
		w.keys.Mac[bit/8] ^= 1 << (bit % 8)
		w.checkData(t, 4, r, refused[api.Block](9, loads.Forged))
	}
	for bit := range 128 {
		w := v
		w.keys.Enc[bit/8] ^= 1 << (bit % 8)
		want := api.Block(stream(w.keys, r.Nonce, v.sectors[9]))
		if want == plainOf(4) {
			t.Fatalf("bit %d of the key does not matter", bit)
		}
		w.checkData(t, 4, r, good(want))
	}
	v.keys = derives.Keys{}
	v.checkData(t, 4, r, refused[api.Block](9, loads.Forged))
}

// P17.3: records that are not valid: ErrArg, whatever is on the disk.
func TestBadRecords(t *testing.T) {
	v, r := stored(t, 5, 2, 1)
	empty := v.without(t, 4)
	var l []api.Record
	for state := 3; state <= 255; state++ {
		other := r
		other.State = uint8(state)
		l = append(l, other, api.Record{State: uint8(state)})
	}
	unwritten := r
	unwritten.State = 0
	l = append(l, unwritten, api.Record{Nonce: r.Nonce}, api.Record{Tag: r.Tag})
	for i := range 32 {
		bad := api.Record{}
		bad.Tag[i] = 1
		l = append(l, bad, api.Record{Nonce: api.Nonce{Shard: 1 << i}}, api.Record{Nonce: api.Nonce{Counter: 1 << i}}, api.Record{Nonce: api.Nonce{Counter: 1 << (i + 32)}})
	}
	for _, x := range l {
		for block := range 5 {
			v.checkData(t, block, x, bad[api.Block](api.ErrArg))
			empty.checkData(t, block, x, bad[api.Block](api.ErrArg))
		}
		for _, block := range []int{-1, 5, math.MinInt, math.MaxInt} {
			v.checkData(t, block, x, bad[api.Block](api.ErrArg))
		}
	}
}

// P17.3: the data of the block of a tree with each fault, and those of blocks beside it.
func TestBlockFaults(t *testing.T) {
	for _, n := range []int{1, 5, 17, 65} {
		v := full(t, n)
		for _, block := range []int{0, n / 2, n - 1} {
			r := v.records[block]
			sector := dataSector(block, int(r.State)-1)
			data := v.sectors[sector]
			for _, x := range []struct {
				edited volume
				fault  loads.Fault
			}{
				{v.without(t, sector), loads.Absent}, {v.with(t, sector, nil), loads.Wide}, {v.with(t, sector, data[:31]), loads.Wide}, {v.with(t, sector, append(slices.Clone(data), 0)), loads.Wide}, {v.with(t, sector, v.sectors[v.sectorOf(place(0, 0))]), loads.Wide}, {v.with(t, sector, changed(data, 0, ^data[0])), loads.Forged}, {v.with(t, sector, changed(data, 31, data[31]^1)), loads.Forged}, {v.without(t, sector).with(t, sector^1, data), loads.Absent},
			} {
				x.edited.checkBlock(t, block, refused[api.Block](sector, x.fault))
				x.edited.checkData(t, block, r, refused[api.Block](sector, x.fault))
				x.edited.checkRecord(t, block, good(r))
				if n > 1 {
					x.edited.checkStored(t, (block+1)%n)
				}
				x.edited.checkDisk(t)
			}
		}
	}
}
