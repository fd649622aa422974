package commits_test

import (
	"crypto/sha256"
	"encoding/binary"
	"encoding/hex"
	"math"
	"slices"
	"strconv"
	"testing"

	"caisson/api"
	"caisson/cells"
	"caisson/commits"
	"caisson/derives"
	"caisson/seals"
	"caisson/shapes"
	"caisson/updates"
)

// The examples of the chapter.
func TestExamples(t *testing.T) {
	tree := stateWith(1, none, zeros).tree()
	cell, e := cells.Fresh(1)
	if e != api.OK {
		t.Fatal(e)
	}
	next := api.Cell{Root: sha256.Sum256(make([]byte, 185)), Epoch: 1}
	if next.Root != cell.Root {
		t.Fatal(cell)
	}
	checkPlan(t, tree, cell, []commits.Write{{Sector: 3, Bytes: make([]byte, 185)}}, next, api.OK)
	checkKept(t, tree, []int{1, 2}, api.OK)

	made, w, e := commits.Put(tree, keys, 0, api.Nonce{Shard: 1, Counter: 2}, plainOf(9))
	if w.Sector != 0 || len(w.Bytes) != 32 || e != api.OK {
		t.Fatal(w, e)
	}
	b := nodeBytes(made.Nodes[0].Node)
	next.Root = sha256.Sum256(b)
	checkPlan(t, made, cell, []commits.Write{{Sector: 3, Bytes: b}}, next, api.OK)

	cell.Epoch = 1
	checkPlan(t, tree, cell, nil, api.Cell{}, api.ErrArg)
	cell.Epoch = math.MaxUint64 - 1
	checkPlan(t, tree, cell, []commits.Write{{Sector: 3, Bytes: make([]byte, 185)}}, api.Cell{Root: cell.Root, Epoch: math.MaxUint64}, api.OK)
}

// knownBlock returns the block that the other program put in a step.
func knownBlock(n, step int) int {
	if step%4 == 0 {
		return n / 2
	}
	return (step*step*37 + 11*step + n - 1) % n
}

// knownWrites carries out the steps of the other program: it returns the slots of the data, all bytes that were written, the last cell, and the last tree.
func knownWrites(t *testing.T, n int) (slots string, written []byte, c api.Cell, tree updates.Tree) {
	t.Helper()
	write := func(w commits.Write) {
		written = binary.BigEndian.AppendUint32(written, uint32(w.Sector))
		written = append(binary.BigEndian.AppendUint16(written, uint16(len(w.Bytes))), w.Bytes...)
	}
	plan := func() {
		l, next, e := commits.Plan(tree, c)
		if e != api.OK {
			t.Fatalf("%d blocks, a plan: error %d", n, e)
		}
		for _, w := range l {
			write(w)
		}
		c = next
	}
	tree = stateWith(n, none, ones).rooted(0).tree()
	for step := range 23 {
		var plain api.Block
		for i := range plain {
			plain[i] = byte(13*step + 7*i + n)
		}
		made, w, e := commits.Put(tree, keys, knownBlock(n, step), api.Nonce{Shard: uint32(step % 8), Counter: uint64(step+1) << (2 * step)}, plain)
		write(w)
		tree, slots = made, slots+strconv.Itoa(w.Sector%2)
		if e == api.OK && step%6 == 5 {
			plan()
			tree, e = updates.Publish(tree)
		}
		if e != api.OK {
			t.Fatalf("%d blocks, step %d: error %d", n, step, e)
		}
	}
	plan()
	return slots, written, c, tree
}

// P19.1, P19.2, P19.4: what another program (with Python's hashlib, hmac and cryptography) computed for 23 calls of Put, with a commit after each sixth one, and a last plan: the slots of the data, the root, and the digests of all writes and of the kept sectors.
func TestKnownWrites(t *testing.T) {
	for _, x := range []struct {
		n                      int
		slots, root, all, kept string
	}{
		{1, "00000011111100000011111", "2718f1892e94da2a338757aec9696b6f6fe6984f42b2cae3132197b7396999dd", "8b9033c2914f12dc3b59e01a93706cd3f571f1393c35efeb29ab3bf5ae6ffad1", "d5688a52d55a02ec4aea5ec1eadfffe1c9e0ee6a4ddbe2377f98326d42dfc975"},
		{3, "00000011111100000011111", "4380653228811258d4c165e12dce858a837da4fefc98750d40ecc2a989ef12f6", "9a3aa3594c0f6b931703812156e7f2384cb3ee9007bf230c5c93ab80e17592d6", "623efd7d43cebe8a6c32a6242fb3136bdb286168cbe3aae87dcee1e29409e577"},
		{4, "00000011111100000011111", "7b8b65b06b7380500c7232fff0c95f048bbbdb5c1edc418c5043c09b2806a6ba", "c8219020823cc7dc3b2a8edab62ad7a0c405c0ef1153b767348af47f23ad2fb2", "a9c2fee9bbf09a70faa162c9ce6cc16a60e471bf2b728dba4f67742021532579"},
		{5, "00000011111100000011111", "ad356b3acb5e5541030ce4be0c01ac09b5a236e4d5656829c754051cf615cd4e", "a785d08da9dd026a2c735b0db74594fb57c8ac6394c2c270d2848c60c203ef2a", "0fe52ac529903eca32332957a6be96a2b316b822db8ce08ee1eabd17bdbacbd4"},
		{16, "00000000100000110100111", "b1d5c953395a8bed6443159c0d5e06d21a7206d5daf51289cf6ca5d4e0f66693", "1b769630f9cbbef9cad9105816279a60663c53f5354cfb90ed5f3165b2a372e2", "454c0e3c2d499dbc6f85adc65988d95604c29f7699b23246d5e2787399bc2d7b"},
		{17, "00000000100001100110110", "b375f9dce7f4baacf7a4314f438de90ee4867b47dc927534b26cb3634d2bb0f6", "83b457f9b350068d7e0a42e0536f9253649d51dcee184e49e400e3fa9b1b57f0", "fba8eb5525978cc1c88dca80ecfe42321e3f0ce04b3ccc05b6cbecde19aab4f8"},
		{64, "00000000100000110000100", "80484cf5798cca854e9b9c46ad690fa7a657f2f0dae8faa6c3942a5f4728378b", "034e0b6337f0bb0f523e0cec9c2681d724dfea1ebedcfaa400e703f130049645", "76838d321f572168386b9826cab726d34340c9b82e75a224ab1f385b62405785"},
		{65, "00000011111100000000100", "75bd8da14975a1267aeeacbb3c3cdd6c18cecf0895a0f11e46bae3271892e52b", "c2e07cf4d558335b2f41a356099b455cbca7cabbb943e688597afbe7466d339a", "462d9d6fa8a7e68af289b0273c4cb408ab542d45180d9965f9664d622eedcf4f"},
		{256, "00000000100000000000100", "88ebaa966ab7dc5b279387cbe7723420887fd7bcaae6c5a1ecd2a04744927706", "328f984fcdcf5da75bdb3317d679f20070b1784786591e4a652a3db31ce8c397", "66caad939915ac792e3c37d174f2b1a32a0f80a008fdde7df3270abe4822c5e4"},
		{257, "00000000100000000000100", "a8e18863782ad236dacdd46d822980da8541f2eed2b558644e4dab9cec7f4a2c", "e690abc89f07677bf81a42a449a4f81334ae9d68a0a7ae425c44ff8247779ba4", "7d1642e005c67a6122a5c3542284d00ede10b70488ff1c0406f188885bae052b"},
		{1024, "00000000100000000000100", "72fe3af8d9171997c78e6b840e595a03c0e88d26bc33b8b9869ed30f7e2cbc93", "7689b369eda3baf34acc23d3d64421782e913ec6ecd0d3a483a147fac0cd475b", "20c4dc07248d235aba10d7a72edf96fc4fd478623a8440864c5d6a4eb5711d40"},
		{1025, "00000000100000000000100", "f6016567a00cbc0e2321dc505f027f5b10f14117d978a23185d33fa34c69f95b", "5b3b13e91b6f4e8f8a3e568c1b55f32eab1ff862b2f18278a31cbfd805e76e5d", "94dc73700abe95e786a0b75e47c7b05614cc5715f38f731c77266d449ade771e"},
		{4096, "00000000100000000000100", "25e328fc87bd37f5f8721aa4d765050d9fc4f27935286ebca1cb055cca57d241", "2d267f21b06d717ae78f74293cf4e75ed76249d93bceb47125d2f6541403c3c7", "9aa5d2e5e6bdc37802e09a13146d44f72d0c31b8796c2ede2159e397d184c2ee"},
	} {
		slots, written, c, tree := knownWrites(t, x.n)
		if all := sha256.Sum256(written); slots != x.slots || hex.EncodeToString(all[:]) != x.all {
			t.Errorf("%d blocks: the slots are %s, all writes have the digest %x, want %s, %s", x.n, slots, all, x.slots, x.all)
		}
		if hex.EncodeToString(c.Root[:]) != x.root || c.Epoch != 4 || c.Mark != 0 {
			t.Errorf("%d blocks: the cell is %x, %d, %d, want %s, 4, 0", x.n, c.Root, c.Epoch, c.Mark, x.root)
		}
		kept, e := commits.Kept(tree)
		var b []byte
		for _, sector := range kept {
			b = binary.BigEndian.AppendUint32(b, uint32(sector))
		}
		if digest := sha256.Sum256(b); e != api.OK || hex.EncodeToString(digest[:]) != x.kept {
			t.Errorf("%d blocks: the kept sectors %v have the digest %x, %d, want %s", x.n, kept, digest, e, x.kept)
		}
	}
}

// P19.1, P19.2, P19.4: trees of all kinds, with all ways to mark their blocks and to give slots to their places.
func TestTrees(t *testing.T) {
	t.Parallel()
	for _, n := range append([]int{10, 11, 12, 14, 18, 63, 66}, smallNumbers...) {
		for i, m := range marks() {
			for j, slot := range slotRules() {
				if n <= 9 || (i+j)%5 == 0 {
					s := stateWith(n, m, slot)
					judge(t, s, api.Cell{Root: api.Digest{1}, Epoch: uint64(s.rootSlot() + 2*i), Mark: uint64(j)})
				}
			}
		}
	}
	for _, n := range append([]int{255, 1000, 4095}, allNumbers...) {
		for i, m := range marks() {
			if n < 100 || i%9 == n%9 {
				s := stateWith(n, m, slotRules()[i%5])
				judge(t, s, api.Cell{Epoch: uint64(s.rootSlot())})
			}
		}
	}
}

// P19.1, P19.2, P19.4: all records that the blocks of small volumes can have, changed or not, with each slot of each place.
func TestAllMarks(t *testing.T) {
	t.Parallel()
	for n, count := 1, 5; n <= 5; n, count = n+1, count*5 {
		for number := range count {
			code := func(block, _ int) int { return number / int(math.Pow(5, float64(block))) % 5 }
			for i := range 1 << len(places(n)) {
				if n <= 3 || i == number%8 {
					s := stateWith(n, code, func(number int) int { return i >> number & 1 })
					judge(t, s, api.Cell{Epoch: uint64(s.rootSlot())})
				}
			}
		}
	}
}

// P19.1: each block of trees of all kinds, and blocks that do not exist.
func TestBlocks(t *testing.T) {
	t.Parallel()
	for _, n := range smallNumbers {
		for i, m := range marks() {
			s := stateWith(n, m, slotRules()[i%5])
			tree := s.tree()
			for block := range n {
				judgePut(t, s, tree, block)
			}
			refusePut(t, tree, badBlocks(n), api.ErrArg)
		}
	}
	for _, n := range allNumbers {
		s := stateWith(n, cycle, drawnSlots)
		tree := s.tree()
		for _, block := range []int{0, n / 3, n - 2, n - 1} {
			if block >= 0 {
				judgePut(t, s, tree, block)
			}
		}
		refusePut(t, tree, badBlocks(n), api.ErrArg)
	}
}

// P19.1: keys, nonces and blocks of all kinds, zeros and the greatest ones among them; each result is also that of the layers below.
func TestPutValues(t *testing.T) {
	var full api.Block
	fill(full[:], 0xff)
	for _, n := range []int{1, 5, 17} {
		for _, m := range []mark{none, cycle, where(4, 2, first)} {
			s := stateWith(n, m, alternating)
			tree := s.tree()
			for block := range n {
				for _, k := range []derives.Keys{{}, keys, keysOf(200), {Enc: keys.Enc}, {Mac: keys.Mac}} {
					for _, nonce := range []api.Nonce{{}, {Shard: 1}, {Counter: 1}, {Shard: math.MaxUint32, Counter: math.MaxUint64}, s.records[block].Nonce} {
						for _, plain := range []api.Block{{}, full, plainOf(block)} {
							want, w := s.put(k, block, nonce, plain)
							made, _ := checkPut(t, tree, k, block, nonce, plain, want.tree(), w, api.OK)
							data, tag, _ := seals.Seal(k, block, nonce, plain)
							set, slot, e := updates.Set(tree, block, nonce, tag)
							sector, _ := shapes.Data(n, block, slot)
							if e != api.OK || !same(made, set) || !sameWrite(w, commits.Write{Sector: sector, Bytes: data[:]}) {
								t.Fatalf("%d blocks, block %d: Put is not what Seal and Set make", n, block)
							}
						}
					}
				}
			}
		}
	}
}

// P19.1: the slots of a block until a commit, and after it.
func TestPutAgain(t *testing.T) {
	for _, n := range smallNumbers {
		for _, m := range []mark{none, where(1, 0, all), where(2, 0, all), where(3, 0, all), where(4, 0, all), cycle} {
			for block := range n {
				tree := stateWith(n, m, eachThird).tree()
				slot, e := updates.Target(tree, block)
				for step := 0; step < 6 && e == api.OK; step++ {
					made, w, err := commits.Put(tree, keys, block, api.Nonce{Counter: uint64(step)}, plainOf(step))
					if want := dataSector(block, (slot+step/2)%2); err != api.OK || w.Sector != want {
						t.Fatalf("%d blocks, block %d, step %d: sector %d, %d, want %d", n, block, step, w.Sector, err, want)
					}
					if tree = made; step%2 == 1 {
						tree, e = updates.Publish(tree)
					}
				}
				if e != api.OK {
					t.Fatalf("%d blocks, block %d: error %d", n, block, e)
				}
			}
		}
	}
}

// P19.2: cells with the least and the greatest epochs, for both slots of the root; what else is in the cell does not matter, but the mark stays.
func TestPlanCells(t *testing.T) {
	epochs := []uint64{0, 1, 2, 3, 255, 256, 1 << 32, 1<<32 - 1, 1 << 62, 1<<63 - 1, 1 << 63, 1<<63 + 1, math.MaxUint64 - 2, math.MaxUint64 - 1, math.MaxUint64}
	for _, n := range []int{1, 4, 5, 16, 17, 64, 65} {
		for _, m := range []mark{none, where(1, 0, all), where(4, 2, last), where(3, 0, all)} {
			for slot := range 2 {
				s := stateWith(n, m, drawnSlots).rooted(slot)
				tree := s.tree()
				for i, epoch := range epochs {
					for _, c := range []api.Cell{{Epoch: epoch}, {Root: digestOf(tree.Nodes[len(tree.Nodes)-1].Node), Epoch: epoch, Mark: uint64(i)}, {Root: api.Digest{31: 9}, Epoch: epoch, Mark: math.MaxUint64}} {
						l, next, e := s.wantPlan(c)
						checkPlan(t, tree, c, l, next, e)
					}
				}
			}
		}
	}
}

// P19.2: the errors for the greatest epochs, written out.
func TestPlanErrors(t *testing.T) {
	for _, n := range []int{1, 5, 64} {
		for _, m := range []mark{none, where(3, 0, all)} {
			for _, x := range []struct {
				slot  int
				epoch uint64
				err   api.Errno
			}{
				{0, 0, api.OK}, {0, 1, api.ErrArg}, {0, math.MaxUint64 - 1, api.OK}, {0, math.MaxUint64, api.ErrArg},
				{1, 0, api.ErrArg}, {1, 1, api.OK}, {1, math.MaxUint64 - 1, api.ErrArg}, {1, math.MaxUint64, api.ErrLimit},
			} {
				s := stateWith(n, m, ones).rooted(x.slot)
				l, next, e := commits.Plan(s.tree(), api.Cell{Epoch: x.epoch, Mark: 5})
				if e != x.err || e != api.OK && (len(l) > 0 || next != api.Cell{}) || e == api.OK && next.Epoch != x.epoch+1 {
					t.Fatalf("%d blocks: a plan for the slot %d and the epoch %d = %v, %v, %d, want the error %d", n, x.slot, x.epoch, l, next, e, x.err)
				}
			}
		}
	}
}

// P19.2, P19.4: a plan and the kept sectors of a tree of three levels, written out.
func TestPlanWrittenOut(t *testing.T) {
	// The groups are the sectors 42 to 53, by twos, the nodes above them 54 to 57, and the root is 58 and 59.
	s := stateWith(21, none, alternating)
	s.records[18], s.records[7] = api.Record{State: 1, Nonce: nonceOf(18)}, api.Record{State: 2, Nonce: nonceOf(7)}
	c := api.Cell{Epoch: 6, Mark: 44}
	sectors := func(tree updates.Tree) []int {
		t.Helper()
		l, next, e := commits.Plan(tree, c)
		if e != api.OK || next.Epoch != 7 || next.Mark != 44 {
			t.Fatal(next, e)
		}
		var at []int
		for _, w := range l {
			at = append(at, w.Sector)
		}
		return at
	}
	tree := s.tree()
	compareList(t, "the plan", sectors(tree), api.OK, []int{59}, api.OK)
	nodesKept := []int{42, 45, 46, 49, 50, 53, 54, 57, 58}
	var dataKept []int
	for block := range 21 {
		dataKept = append(dataKept, 2*block+1)
	}
	dataKept[18] = 36
	checkKept(t, tree, slices.Concat(dataKept, nodesKept), api.OK)

	for _, x := range []struct {
		block, sector int
		plan          []int
	}{{18, 37, []int{51, 56, 59}}, {7, 14, []int{44, 51, 55, 56, 59}}, {20, 40, []int{44, 51, 52, 55, 56, 59}}, {18, 37, []int{44, 51, 52, 55, 56, 59}}, {0, 0, []int{43, 44, 51, 52, 55, 56, 59}}} {
		made, w, e := commits.Put(tree, keys, x.block, nonceOf(x.block+1), plainOf(x.block))
		if tree = made; e != api.OK || w.Sector != x.sector {
			t.Fatalf("Put of block %d writes to sector %d, %d, want %d", x.block, w.Sector, e, x.sector)
		}
		if at := sectors(tree); !slices.Equal(at, x.plan) {
			t.Fatalf("after Put of block %d the plan writes to %v, want %v", x.block, at, x.plan)
		}
		checkKept(t, tree, slices.Concat(dataKept, nodesKept), api.OK)
	}
	tree, e := updates.Publish(tree)
	if e != api.OK {
		t.Fatal(e)
	}
	dataKept[18], dataKept[7], dataKept[20], dataKept[0] = 37, 14, 40, 0
	checkKept(t, tree, slices.Concat(dataKept, []int{43, 44, 46, 49, 51, 52, 55, 56, 59}), api.OK)
}

// P19.4: lists of all kinds.
func TestSectors(t *testing.T) {
	lists := func(sectors ...int) []commits.Write {
		var l []commits.Write
		for i, sector := range sectors {
			l = append(l, commits.Write{Sector: sector, Bytes: make([]byte, i*37%300)})
		}
		return l
	}
	checkSectors(t, nil, nil)
	checkSectors(t, []commits.Write{}, nil)
	checkSectors(t, make([]commits.Write, 5), []int{0})
	for _, x := range []struct{ sectors, want []int }{
		{[]int{0}, []int{0}}, {[]int{-1}, []int{-1}}, {[]int{7, 7, 7}, []int{7}}, {[]int{3, 2, 1, 0}, []int{0, 1, 2, 3}}, {[]int{1, 2, 1, 3, 2, 1}, []int{1, 2, 3}},
		{[]int{10, 9, 100, -9, -10}, []int{-10, -9, 9, 10, 100}}, {[]int{math.MaxInt, math.MinInt, 0, math.MaxInt, -1, math.MinInt}, []int{math.MinInt, -1, 0, math.MaxInt}}, {[]int{1 << 32, 0, 1 << 40, -1 << 32}, []int{-1 << 32, 0, 1 << 32, 1 << 40}},
	} {
		checkSectors(t, lists(x.sectors...), x.want)
	}
	draw := drawer(4)
	for size := range 300 {
		var sectors []int
		for range size {
			sectors = append(sectors, draw(size+size/2)-size/3)
		}
		want := slices.Clone(sectors)
		slices.Sort(want)
		checkSectors(t, lists(sectors...), slices.Clip(slices.Compact(want)))
	}
}

// P19.2, P19.4: the sectors of the writes of a plan are those of its places, in their order.
func TestSectorsOfPlans(t *testing.T) {
	for _, n := range append([]int{1024, 4096}, smallNumbers...) {
		for i, m := range marks() {
			if n > 100 && i%6 > 0 {
				continue
			}
			s := stateWith(n, m, slotRules()[i%5])
			var want []int
			for _, w := range s.plan() {
				want = append(want, w.Sector)
			}
			l, _, e := commits.Plan(s.tree(), api.Cell{Epoch: uint64(s.rootSlot())})
			if e != api.OK {
				t.Fatalf("a plan of %d blocks: error %d", n, e)
			}
			checkSectors(t, l, slices.Clip(want))
		}
	}
}
