package merkles_test

import (
	"encoding/hex"
	"math"
	"slices"
	"sync"
	"testing"

	"caisson/api"
	"caisson/merkles"
	"caisson/shapes"
)

func sameTree(a, b merkles.Tree) bool {
	return a.Blocks == b.Blocks && slices.Equal(a.Nodes, b.Nodes)
}

// copied returns a tree that shares no memory with another one.
func copied(t merkles.Tree) merkles.Tree {
	return merkles.Tree{Blocks: t.Blocks, Nodes: slices.Clone(t.Nodes)}
}

// show returns what is worth saying of a tree: that and its nodes would be too much.
func show(t merkles.Tree) string {
	text := hex.EncodeToString([]byte{byte(t.Blocks >> 8), byte(t.Blocks)}) + " blocks (hex)"
	for _, x := range t.Nodes[:min(len(t.Nodes), 8)] {
		text += "\n" + hex.EncodeToString(nodeBytes(x))
	}
	return text
}

// build builds a tree, and checks that the tree or the error is what has to come, and that the arguments stay as they are.
func build(t *testing.T, s source, want merkles.Tree, err api.Errno) merkles.Tree {
	t.Helper()
	l, slots := slices.Clone(s.records), slices.Clone(s.slots)
	got, e := merkles.Build(s.n, s.records, s.slots)
	if e != err || !sameTree(got, want) || cap(got.Nodes) != len(got.Nodes) {
		t.Fatalf("Build(%d, %d records, %d slots) = %s, %d with room for %d, want %s, %d", s.n, len(l), len(slots), show(got), e, cap(got.Nodes), show(want), err)
	}
	if !slices.Equal(l, s.records) || !slices.Equal(slots, s.slots) {
		t.Fatalf("Build(%d, ..) changed its arguments", s.n)
	}
	return got
}

func good(t *testing.T, s source) merkles.Tree {
	t.Helper()
	return build(t, s, s.tree(), api.OK)
}

func bad(t *testing.T, s source) {
	t.Helper()
	build(t, s, merkles.Tree{}, api.ErrArg)
}

func checkCheck(t *testing.T, tree merkles.Tree, want api.Errno) {
	t.Helper()
	before := copied(tree)
	if e := merkles.Check(tree); e != want {
		t.Fatalf("Check(%s) = %d, want %d", show(tree), e, want)
	}
	if !sameTree(tree, before) {
		t.Fatalf("Check made the tree %s from %s", show(tree), show(before))
	}
}

func checkRoot(t *testing.T, tree merkles.Tree, want api.Digest, err api.Errno) {
	t.Helper()
	before := copied(tree)
	if got, e := merkles.Root(tree); got != want || e != err {
		t.Fatalf("Root(%s) = %x, %d, want %x, %d", show(tree), got, e, want, err)
	}
	if !sameTree(tree, before) {
		t.Fatalf("Root made the tree %s from %s", show(tree), show(before))
	}
}

func checkAt(t *testing.T, tree merkles.Tree, p shapes.Place, want api.Node, err api.Errno) {
	t.Helper()
	before := copied(tree)
	if got, e := merkles.At(tree, p); got != want || e != err {
		t.Fatalf("At(%s, %v) = %x, %d, want %x, %d", show(tree), p, got, e, want, err)
	}
	if !sameTree(tree, before) {
		t.Fatalf("At made the tree %s from %s", show(tree), show(before))
	}
}

func checkRecords(t *testing.T, tree merkles.Tree, want []api.Record, err api.Errno) {
	t.Helper()
	before := copied(tree)
	if got, e := merkles.Records(tree); !slices.Equal(got, want) || e != err || cap(got) != len(got) {
		t.Fatalf("Records(%s) = %x, %d with room for %d, want %x, %d", show(tree), got, e, cap(got), want, err)
	}
	if !sameTree(tree, before) {
		t.Fatalf("Records made the tree %s from %s", show(tree), show(before))
	}
}

func checkProve(t *testing.T, tree merkles.Tree, block int, want merkles.Proof, err api.Errno) {
	t.Helper()
	before := copied(tree)
	if got, e := merkles.Prove(tree, block); !sameProof(got, want) || e != err || cap(got.Nodes) != len(got.Nodes) {
		t.Fatalf("Prove(%s, %d) = %x, %d with room for %d, want %x, %d", show(tree), block, got, e, cap(got.Nodes), want, err)
	}
	if !sameTree(tree, before) {
		t.Fatalf("Prove made the tree %s from %s", show(tree), show(before))
	}
}

// checkNoDifference checks that Differ returns an error alone.
func checkNoDifference(t *testing.T, a, b merkles.Tree, want api.Errno) {
	t.Helper()
	c, d := copied(a), copied(b)
	if x, y, e := merkles.Differ(a, b); e != want || len(x) != 0 || len(y) != 0 {
		t.Fatalf("Differ(%s, %s) = %x, %x, %d, want %d", show(a), show(b), x, y, e, want)
	}
	if !sameTree(a, c) || !sameTree(b, d) {
		t.Fatalf("Differ made the trees %s, %s from %s, %s", show(a), show(b), show(c), show(d))
	}
}

// judge checks all functions that take a tree: what they return for a valid one, or that they return the error of Check alone, whatever else they are given.
func judge(t *testing.T, tree merkles.Tree) {
	t.Helper()
	err := wantCheck(tree)
	checkCheck(t, tree, err)
	if err == api.OK {
		root := tree.Nodes[len(tree.Nodes)-1]
		checkRoot(t, tree, digestOf(root), api.OK)
		checkRecords(t, tree, wantRecords(tree), api.OK)
		checkAt(t, tree, place(wantHeight(tree.Blocks), 0), root, api.OK)
		checkProve(t, tree, tree.Blocks-1, wantProof(tree, tree.Blocks-1), api.OK)
		checkNoDifference(t, tree, copied(tree), api.ErrNone)
		return
	}
	checkRoot(t, tree, api.Digest{}, err)
	checkRecords(t, tree, nil, err)
	for _, i := range []int{0, -1, tree.Blocks} {
		checkAt(t, tree, place(0, i), api.Node{}, err)
		checkProve(t, tree, i, merkles.Proof{}, err)
	}
	sound := treeOf(2, where(first))
	checkNoDifference(t, tree, sound, err)
	checkNoDifference(t, sound, tree, err)
	checkNoDifference(t, tree, merkles.Tree{}, err)
	checkNoDifference(t, merkles.Tree{}, tree, api.ErrArg)
}

// The examples of the chapter.
func TestExamples(t *testing.T) {
	one := good(t, source{1, make([]api.Record, 1), []int{0}})
	checkRoot(t, one, digestOf(api.Node{}), api.OK)
	if b := nodeBytes(api.Node{}); !slices.Equal(b, make([]byte, 185)) {
		t.Fatalf("the bytes of the empty group are %x", b)
	}

	r := written(0)
	if r.State != 1 {
		t.Fatal(r)
	}
	five := good(t, source{5, []api.Record{r, {}, {}, {}, {}}, []int{1, 0, 0}})
	group := api.Node{Records: [4]api.Record{r}}
	root := api.Node{Level: 1, Entries: [4]api.Entry{{State: 2, Digest: digestOf(group)}}}
	checkAt(t, five, place(1, 0), root, api.OK)
	checkAt(t, five, place(0, 0), group, api.OK)
	checkAt(t, five, place(0, 1), api.Node{Index: 1}, api.OK)
	checkProve(t, five, 0, merkles.Proof{Block: 0, Nodes: []api.Node{root, group}}, api.OK)
	alone := merkles.Proof{Block: 4, Nodes: []api.Node{root}}
	checkProve(t, five, 4, alone, api.OK)
	checkVerify(t, 5, digestOf(root), alone, api.Record{}, api.OK)

	bad(t, source{5, make([]api.Record, 4), []int{0, 0, 0}})
	checkVerify(t, 5, digestOf(root), merkles.Proof{}, api.Record{}, api.ErrArg)
}

// P16.1, P16.3: roots that another program (with Python's hashlib) computed; the slot of the places with the numbers 1, 4, 7, .. is 1, that of the others 0.
func TestKnownRoots(t *testing.T) {
	for _, x := range []struct {
		n                        int
		first, last, thirds, all string
	}{
		{1, "4382eb3d9da1d48445f6bfa7f8d9c05ac5916363349c7d1b5d16f2920903e6a1", "4382eb3d9da1d48445f6bfa7f8d9c05ac5916363349c7d1b5d16f2920903e6a1", "babd6f664158d665504571b169a1e81ef75470cdca4fdd7d95be6cdb7826136d", "4382eb3d9da1d48445f6bfa7f8d9c05ac5916363349c7d1b5d16f2920903e6a1"},
		{3, "4382eb3d9da1d48445f6bfa7f8d9c05ac5916363349c7d1b5d16f2920903e6a1", "d8a61565431ff761c0ccfeb201ccc1522497ad23b45e96e1fcb0b9e5d2f38607", "d8a61565431ff761c0ccfeb201ccc1522497ad23b45e96e1fcb0b9e5d2f38607", "43b614e91dea3c1e7c77adca22c9333d1c5a98f2611ebcdecaaac9cac1b43386"},
		{4, "4382eb3d9da1d48445f6bfa7f8d9c05ac5916363349c7d1b5d16f2920903e6a1", "3f8d307fed0416553957ee22a343561b50485b75ab79c9a74e1b839359f72a55", "d8a61565431ff761c0ccfeb201ccc1522497ad23b45e96e1fcb0b9e5d2f38607", "9b108c4ea21600acb4d47476b4bbd8c0b211c44921a098307d601cf1a584c864"},
		{5, "083fb493fcab389075e806e60b676cfc11d3bfe7b6e9e38ce3363052f29553ed", "be79bbc4d9c2460ef703ddf84c4880635de5eb2a90f29b71f677e6fcc4b9457a", "2ee975580cbad7752ca14bc0007d00055d4614735cac32e7606d797ef283d333", "2e5911ff1867f18e3baf4a0e5158474116892aea8d2ef81b07ea58e960a86fbd"},
		{16, "083fb493fcab389075e806e60b676cfc11d3bfe7b6e9e38ce3363052f29553ed", "311c336cb92c80f426405e429a005ccb54cfd095e9c29215687110c410bb2391", "af26750a1f5b1f36fdf0c183190a53da5e3aae6b4859601d3223827b66ed5263", "b57f3b4b8e9e52c11344a685aa70be232c909132e917d2c3f8143a1b7c357fb5"},
		{17, "6d2b1490c6798cbcd05f1c49aa25748b119c11c544cc5660357e31af349d2cac", "72fb35b2fda5c6e64ab21f784ee151412cf7838e8e7e3fa70382ccec80026e3c", "2f26aede55055b503eacd5938b21a5d6c08084cfcb3781d051f7a94126b32f95", "056358ddabafec8a242925c65bae8bcfc54f2fb0a8045ed26ee64470426760e3"},
		{64, "c4df6af8c4e0d0f5680a19906e83f295132aa7413106c9ea8882c3c7e6336bd5", "d3e5163349d363627bfbae495ecd79c5961117a49e7cec8ef2e54b454f22367b", "91690b0e48ec790f398c4110f3c649633437353cdbf6be11186fba455144d5d5", "fec5913b21189d9b46925598c38defd14e0d43df9ab7b19a0d10a1065bd63d06"},
		{65, "97f5b20197b11d4d7c3bb3749a1960c8b56fb02b71440167a0ffe76d6d24c746", "5be9bcf425f4f14489fd0720d8404d16e8c92df1029930d04c68c06b45223e1d", "6a8db904c23c9e294e8dae22474508a8e7f36d2c6dfc3da8846083dfe185448b", "713b044788f23355eeea494f0f1fd8b5a441314101554835e80f85c6b06e079e"},
		{256, "575707cf33d3aaf1e8544e68dde4956d2bc7e62dd637d7e7e861a03fbc83bb3e", "3df909e2664fb16b19dd959ddd0de4fce9c68b9023dc4d0a41b2f3e915ca6c37", "75122a836af20365f8abc45db07b82cd64509a671dd3f0d155a15ebe96f0b1b2", "e7a6ffbb8d3a9b38ec5a7a20b53485951d2b84e6b82d834b8cc53d7e17020ed6"},
		{257, "5ebf50d0c78bd767c93a3d9b12338b3985d5369594fc05bdc1a92b76f90fda1d", "b6e14339278c20b5d4a4fdbe5a15a7760d6b3b85388245a3f3b5886438bb05cd", "d84cbbe5cbc88d0449167e9109618bd29bfc11dd7c7bff2aebac8716d52ce6c6", "3404ea5bbc3c418eccdd3d3f8e0fe9f6660216a8c643e1f780f0c083af7ffcb5"},
		{1024, "efeff1d9749b823a903067bc8a4a43b7d4dbdd4aae81863f2141a9103a17bbdf", "43be6fb3edd321c23afdda65877f01b19aea01b58554abbae03f6d0c86deb037", "21cf38bb9103f997d22e6aa04bbc47a1e025e61d9b22135bb09f894949422d1c", "f55ccc0e2db0fd24de630a6f0b0533f8e90e76922c0818cc2e737bf2b73eb897"},
		{1025, "314f75aebefc07e44c806d0aaf31a45f0ed7c61b36239c353e806c7b3288468f", "0ca3c151210e167e3a27058b523dc0689548e7656f104f49780178a173858b44", "40769a404fcae818731e1b0662513aef862e28a69bb3c458de3732ddbea5b9d3", "357ddadbee722a381ada43c8be37d06cc7447e2e93345d83c14c11c55409e441"},
		{4096, "4ee024caf5cb6f9205165af24ecddaddddb645ddcc3bba04fa5748524eade268", "94deb1a9b353fb5bd91fa44cdde7367d0732b1a1e3b339d808e745eba4a0c98b", "427bb975cc0fcea8f288576908bd214fe2c597aa7d35b41191115158cf0370e3", "784557a4241ee2339c6d83742e57f667e007b73f8c6552544bb99cdc5adf96d3"},
	} {
		for _, y := range []struct {
			fill fill
			root string
		}{{where(first), x.first}, {where(last), x.last}, {where(thirds), x.thirds}, {where(all), x.all}} {
			tree, e := merkles.Build(x.n, recordsOf(x.n, y.fill), slotsOf(x.n, eachThird))
			if e != api.OK {
				t.Fatalf("Build(%d, ..): error %d", x.n, e)
			}
			if root, e := merkles.Root(tree); hex.EncodeToString(root[:]) != y.root || e != api.OK {
				t.Errorf("the root of %d blocks is %x, %d, want %s", x.n, root, e, y.root)
			}
		}
	}
}

// P16.1: trees of all kinds against the definition: all small numbers of blocks, and those that the issue names.
func TestBuild(t *testing.T) {
	for _, n := range allNumbers {
		if len(wantPlaces(n)) != wantNumber(n, place(wantHeight(n), 0))+1 {
			t.Fatalf("the model has other numbers of places for %d blocks", n)
		}
	}
	for n := 1; n <= 70; n++ {
		for i, f := range fills() {
			for _, slots := range []func(int) int{zeros, ones, alternating, eachThird, drawnSlots} {
				if n <= 20 || i < 4 {
					good(t, source{n, recordsOf(n, f), slotsOf(n, slots)})
				}
			}
		}
	}
	for _, n := range append([]int{255, 1023, 2000, 4095}, allNumbers...) {
		for i, f := range fills() {
			if n < 1000 || i < 6 {
				good(t, sourceOf(n, f))
			}
		}
	}
}

// P16.1: all sets of written blocks for small numbers of them, with all sets of slots.
func TestBuildSets(t *testing.T) {
	for n := 1; n <= 6; n++ {
		for set := range 1 << n {
			f := where(func(block, _ int) bool { return set>>block&1 == 1 })
			for slots := range 1 << len(wantPlaces(n)) {
				good(t, source{n, recordsOf(n, f), slotsOf(n, func(number int) int { return slots >> number & 1 })})
			}
		}
	}
}

// P16.1: the slot of the root, and those of places whose subtrees are empty, do not matter; that of each other place does.
func TestBuildSlots(t *testing.T) {
	for _, n := range smallNumbers {
		for _, f := range fills() {
			s := sourceOf(n, f)
			tree := good(t, s)
			for number, p := range wantPlaces(n) {
				other := source{n, s.records, slices.Clone(s.slots)}
				other.slots[number] = 1 - s.slots[number]
				matters := p.Level < wantHeight(n) && !wantEmpty(s.records, p)
				if sameTree(good(t, other), tree) == matters {
					t.Fatalf("%d blocks: the slot of %v matters: want %v", n, p, matters)
				}
			}
		}
	}
}

// P16.1: numbers of blocks, of records and of slots that do not go together.
func TestBuildNumbers(t *testing.T) {
	for _, n := range badNumbers {
		for _, count := range []int{0, 1, 5, 4096} {
			bad(t, source{n, make([]api.Record, count), make([]int, len(wantPlaces(max(count, 1))))})
		}
		bad(t, source{n: n})
		bad(t, source{n, make([]api.Record, 4097), make([]int, 1372)})
	}
	for _, n := range append(smallNumbers, allNumbers...) {
		total := len(wantPlaces(n))
		for _, records := range []int{0, n - 1, n, n + 1, n + 2, 2 * n, 4097} {
			for _, slots := range []int{0, total - 1, total, total + 1, 2 * total, n} {
				if s := (source{n, make([]api.Record, records), make([]int, slots)}); records == n && slots == total {
					good(t, s)
				} else {
					bad(t, s)
				}
			}
		}
	}
	bad(t, source{n: 1})
	bad(t, source{1, []api.Record{}, []int{}})
	bad(t, source{1, make([]api.Record, 1), nil})
	bad(t, source{1, nil, make([]int, 1)})
}

// P16.1: a slot that is none, at each place, that of the root and those of empty subtrees among them.
func TestBuildBadSlots(t *testing.T) {
	for _, n := range smallNumbers {
		for _, f := range []fill{where(none), where(first), where(all)} {
			for number := range wantPlaces(n) {
				for _, slot := range []int{2, 3, 4, -1, -2, 255, 256, 257, 1 << 32, 1<<32 + 1, 1 - 1<<32, math.MinInt, math.MinInt + 1, math.MaxInt - 1, math.MaxInt} {
					s := sourceOf(n, f)
					s.slots[number] = slot
					bad(t, s)
				}
			}
		}
	}
	for _, n := range allNumbers {
		for _, number := range []int{0, len(wantPlaces(n)) / 2, len(wantPlaces(n)) - 1} {
			s := sourceOf(n, where(thirds))
			s.slots[number] = 2
			bad(t, s)
		}
	}
}

// badRecords are records that records.CheckRecord refuses, for each reason.
func badRecords() []api.Record {
	return []api.Record{
		{State: 3}, {State: 4}, {State: 128}, {State: 255}, {State: 3, Nonce: api.Nonce{Shard: 1, Counter: 2}, Tag: ascending(0)},
		{Nonce: api.Nonce{Shard: 1}}, {Nonce: api.Nonce{Counter: 1}}, {Nonce: api.Nonce{Counter: 1 << 63}}, {Tag: api.Digest{1}}, {Tag: api.Digest{31: 0x80}},
	}
}

// P16.1: records that are not valid, at each block, and at each two blocks.
func TestBuildBadRecords(t *testing.T) {
	for _, n := range smallNumbers {
		for _, f := range []fill{where(none), where(thirds), where(all)} {
			for block := range n {
				for i, r := range badRecords() {
					s := sourceOf(n, f)
					s.records[block] = r
					bad(t, s)
					s.records[(block+i)%n] = badRecords()[0]
					bad(t, s)
				}
			}
		}
	}
	for _, n := range allNumbers {
		for _, block := range []int{0, n / 2, n - 1} {
			s := sourceOf(n, where(thirds))
			s.records[block] = api.Record{State: 3}
			bad(t, s)
			s.slots[0] = 2
			bad(t, s)
		}
	}
}

// change changes a node of a level; which is the number of a part, and it may have an effect or not.
type change func(x *api.Node, which int)

// headChanges change what stands before the parts.
func headChanges() []change {
	return []change{
		func(x *api.Node, _ int) { x.Level++ },
		func(x *api.Node, _ int) { x.Level-- },
		func(x *api.Node, which int) { x.Level = uint8(which) },
		func(x *api.Node, which int) { x.Level = uint8(which) + 4 },
		func(x *api.Node, _ int) { x.Level = 255 },
		func(x *api.Node, _ int) { x.Index++ },
		func(x *api.Node, _ int) { x.Index-- },
		func(x *api.Node, which int) { x.Index = uint32(which) },
		func(x *api.Node, _ int) { x.Index ^= 1 << 31 },
		func(x *api.Node, _ int) { x.Index ^= 1 << 8 },
		func(x *api.Node, which int) { *x = api.Node{Level: uint8(which)} },
		func(x *api.Node, _ int) { *x = api.Node{Level: x.Level, Index: x.Index} },
	}
}

// partChanges change a part, of the kind that the node has, and of the other one.
func partChanges() []change {
	l := []change{
		func(x *api.Node, which int) { x.Records[which] = api.Record{} },
		func(x *api.Node, which int) { x.Records[which] = api.Record{State: 1} },
		func(x *api.Node, which int) { x.Records[which] = written(which + 100) },
		func(x *api.Node, which int) { x.Records[which].State ^= 3 },
		func(x *api.Node, which int) { x.Records[which].Nonce.Shard ^= 1 },
		func(x *api.Node, which int) { x.Records[which].Nonce.Counter ^= 1 << 40 },
		func(x *api.Node, which int) { x.Records[which].Tag = flipped(x.Records[which].Tag, 60*which) },
		func(x *api.Node, which int) {
			x.Records[which], x.Records[(which+1)%4] = x.Records[(which+1)%4], x.Records[which]
		},
		func(x *api.Node, which int) { x.Entries[which] = api.Entry{} },
		func(x *api.Node, which int) { x.Entries[which] = api.Entry{State: 1} },
		func(x *api.Node, which int) { x.Entries[which] = api.Entry{State: 2, Digest: ascending(which)} },
		func(x *api.Node, which int) { x.Entries[which] = api.Entry{State: 3, Digest: ascending(which)} },
		func(x *api.Node, which int) { x.Entries[which] = api.Entry{Digest: ascending(which)} },
		func(x *api.Node, which int) { x.Entries[which].State ^= 3 },
		func(x *api.Node, which int) { x.Entries[which].State = 0 },
		func(x *api.Node, which int) { x.Entries[which].State += 3 },
		func(x *api.Node, which int) { x.Entries[which].Digest = flipped(x.Entries[which].Digest, 80*which) },
		func(x *api.Node, which int) {
			x.Entries[which].Digest = flipped(x.Entries[which].Digest, 255-80*which)
		},
		func(x *api.Node, which int) {
			x.Entries[which], x.Entries[(which+1)%4] = x.Entries[(which+1)%4], x.Entries[which]
		},
		func(x *api.Node, which int) {
			child := api.Node{Level: x.Level - 1, Index: 4*x.Index + uint32(which)}
			x.Entries[which] = api.Entry{State: 1, Digest: digestOf(child)}
		},
	}
	for _, r := range badRecords() {
		l = append(l, func(x *api.Node, which int) { x.Records[which] = r })
	}
	return l
}

// mildChanges change parts, but never so that a node that fits does not, unless the part does not exist.
func mildChanges() []change {
	group := func(c change) change {
		return func(x *api.Node, which int) {
			if x.Level == 0 {
				c(x, which)
			}
		}
	}
	inner := func(c change) change {
		return func(x *api.Node, which int) {
			if x.Level > 0 {
				c(x, which)
			}
		}
	}
	return []change{
		group(func(x *api.Node, which int) { x.Records[which] = api.Record{} }),
		group(func(x *api.Node, which int) { x.Records[which] = written(which + 200) }),
		inner(func(x *api.Node, which int) { x.Entries[which] = api.Entry{} }),
		inner(func(x *api.Node, which int) { x.Entries[which] = api.Entry{State: 2, Digest: ascending(which)} }),
		inner(func(x *api.Node, which int) { x.Entries[which] = x.Entries[(which+3)%4] }),
		inner(func(x *api.Node, which int) { *x = api.Node{Level: x.Level, Index: x.Index} }),
	}
}

// changes are all changes of nodes, each with all parts.
func changes() []func(*api.Node) {
	return withParts(slices.Concat(headChanges(), partChanges(), mildChanges()))
}

// withParts returns the changes, each with all parts.
func withParts(l []change) []func(*api.Node) {
	var all []func(*api.Node)
	for _, c := range l {
		for which := range 4 {
			all = append(all, func(x *api.Node) { c(x, which) })
		}
	}
	return all
}

// drawChange returns a change, and in half of the cases a mild one.
func drawChange(draw func() uint64) func(*api.Node) {
	l := changes()
	if below(draw, 2) == 0 {
		l = withParts(mildChanges())
	}
	return l[below(draw, len(l))]
}

// repair gives the entries above a place the digests that they have to have, but leaves zero those that are, so that a fault at the place is the only one.
func repair(t merkles.Tree, p shapes.Place) {
	for ; p.Level < wantHeight(t.Blocks); p = place(p.Level+1, p.Index/4) {
		parent := place(p.Level+1, p.Index/4)
		if e := &t.Nodes[wantNumber(t.Blocks, parent)].Entries[p.Index%4]; *e != (api.Entry{}) {
			e.Digest = digestOf(t.Nodes[wantNumber(t.Blocks, p)])
		}
	}
}

// P16.2, P16.3: each node of small trees with each change, alone and with the digests above it repaired.
func TestCheckChanges(t *testing.T) {
	outcomes := map[api.Errno]int{}
	for _, n := range []int{1, 3, 4, 5, 8, 16, 17, 21} {
		for _, f := range []fill{where(none), where(all), where(first), where(last), where(thirds), where(oddGroups)} {
			tree := treeOf(n, f)
			for number, p := range wantPlaces(n) {
				for _, c := range changes() {
					faulty := copied(tree)
					c(&faulty.Nodes[number])
					outcomes[wantCheck(faulty)]++
					judge(t, faulty)
					repair(faulty, p)
					checkCheck(t, faulty, wantCheck(faulty))
				}
			}
		}
	}
	if outcomes[api.OK] == 0 || outcomes[api.ErrFit] == 0 || outcomes[api.ErrIntegrity] == 0 {
		t.Fatalf("the changes have the outcomes %v only", outcomes)
	}
}

// P16.2, P16.3: small trees with two and more changes, so that the first fault counts.
func TestCheckTwoFaults(t *testing.T) {
	draw, firsts := drawer(1), map[api.Errno]int{}
	for range 12000 {
		n := smallNumbers[below(draw, len(smallNumbers))]
		f := fills()[below(draw, len(fills()))]
		tree := treeOf(n, f)
		places := wantPlaces(n)
		for range 2 + below(draw, 2) {
			number := below(draw, len(places))
			drawChange(draw)(&tree.Nodes[number])
			if below(draw, 2) == 0 {
				repair(tree, places[number])
			}
		}
		want := wantCheck(tree)
		firsts[want]++
		checkCheck(t, tree, want)
	}
	if firsts[api.OK] < 100 || firsts[api.ErrFit] < 500 || firsts[api.ErrIntegrity] < 500 {
		t.Fatalf("the faults are not of all kinds: %v", firsts)
	}
}

// P16.2: the first of two faults counts, by level and then by index, written out.
func TestCheckOrder(t *testing.T) {
	misfit := func(x *api.Node) { x.Index += 100 }
	altered := func(x *api.Node) { x.Entries[0].Digest = flipped(x.Entries[0].Digest, 7) }
	// The places of 21 blocks: the groups 0 to 5, the nodes 6 and 7 above them, and the root 8.
	for _, x := range []struct {
		fit, integrity int
		want           api.Errno
	}{
		{0, 6, api.ErrFit}, {5, 6, api.ErrFit}, {5, 8, api.ErrFit}, {6, 7, api.ErrFit}, {7, 6, api.ErrIntegrity}, {6, 6, api.ErrFit},
		{8, 6, api.ErrIntegrity}, {8, 7, api.ErrIntegrity}, {8, 8, api.ErrFit}, {7, 8, api.ErrFit}, {0, 8, api.ErrFit},
	} {
		tree := treeOf(21, where(all))
		misfit(&tree.Nodes[x.fit])
		altered(&tree.Nodes[x.integrity])
		checkCheck(t, tree, x.want)
		if want := wantCheck(tree); want != x.want {
			t.Errorf("ErrFit at %d, ErrIntegrity at %d: the model says %d", x.fit, x.integrity, want)
		}
	}
}

// P16.2: in trees that are otherwise as they have to be, an entry that is zero above a subtree that is not empty, one that is not zero above an empty one, and a part that does not exist.
func TestCheckEntries(t *testing.T) {
	for _, n := range []int{5, 16, 17, 21, 64, 65, 257} {
		for _, f := range []fill{where(first), where(last), where(thirds), where(all), where(none), where(bothEnds)} {
			tree := treeOf(n, f)
			l := recordsOf(n, f)
			for number, p := range wantPlaces(n) {
				for which := range 4 {
					if p.Level == 0 || n > 70 && number%7 > 0 && p.Level == 1 {
						continue
					}
					child := place(p.Level-1, 4*p.Index+which)
					faulty, want := copied(tree), api.ErrIntegrity
					e := &faulty.Nodes[number].Entries[which]
					switch {
					case !hasPlace(n, child):
						*e, want = api.Entry{State: 1, Digest: digestOf(api.Node{})}, api.ErrFit
					case wantEmpty(l, child):
						*e = api.Entry{State: 2, Digest: digestOf(tree.Nodes[wantNumber(n, child)])}
					default:
						*e = api.Entry{}
					}
					repair(faulty, p)
					checkCheck(t, faulty, want)
				}
			}
		}
	}
}

// P16.2: a tree whose entry has the other slot is the tree of other slots, if the digests above it are those of it.
func TestCheckOtherSlots(t *testing.T) {
	for _, n := range []int{5, 17, 65, 1025} {
		tree := treeOf(n, where(all))
		for _, number := range []int{wantCount(n, 0), len(tree.Nodes) - 1} {
			other := copied(tree)
			other.Nodes[number].Entries[0].State ^= 3
			repair(other, wantPlaces(n)[number])
			judge(t, other)
			checkCheck(t, other, api.OK)
			checkNoDifference(t, tree, other, api.ErrNone)
		}
	}
}

// P16.2: trees with too few and too many nodes, and with other numbers of blocks.
func TestCheckNumbers(t *testing.T) {
	for _, n := range append(smallNumbers, allNumbers...) {
		tree := treeOf(n, where(first))
		root := tree.Nodes[len(tree.Nodes)-1]
		for _, l := range [][]api.Node{nil, {}, tree.Nodes[1:], tree.Nodes[:len(tree.Nodes)-1], append(slices.Clone(tree.Nodes), root), append(slices.Clone(tree.Nodes), api.Node{}), slices.Concat(tree.Nodes, tree.Nodes)} {
			judge(t, merkles.Tree{Blocks: n, Nodes: l})
			checkCheck(t, merkles.Tree{Blocks: n, Nodes: l}, api.ErrArg)
		}
	}
	for _, n := range badNumbers {
		for _, l := range [][]api.Node{nil, make([]api.Node, 1), treeOf(4096, where(none)).Nodes, treeOf(5, where(all)).Nodes} {
			checkCheck(t, merkles.Tree{Blocks: n, Nodes: l}, api.ErrArg)
			judge(t, merkles.Tree{Blocks: n, Nodes: l})
		}
	}
	checkCheck(t, merkles.Tree{}, api.ErrArg)
}

// P16.2: the nodes of a tree under all numbers of blocks near its own: some have as many places, and then parts that do not exist count.
func TestCheckOtherBlocks(t *testing.T) {
	fit := 0
	for _, n := range smallNumbers {
		for _, f := range fills() {
			tree := treeOf(n, f)
			for other := max(1, n-8); other < n+8; other++ {
				strange := merkles.Tree{Blocks: other, Nodes: tree.Nodes}
				if wantCheck(strange) == api.ErrFit {
					fit++
				}
				judge(t, strange)
			}
		}
	}
	if fit == 0 {
		t.Fatal("no tree has a part that does not exist")
	}
	judge(t, merkles.Tree{Blocks: 5, Nodes: treeOf(8, where(first)).Nodes})
	checkCheck(t, merkles.Tree{Blocks: 5, Nodes: treeOf(8, where(first)).Nodes}, api.OK)
	checkCheck(t, merkles.Tree{Blocks: 5, Nodes: treeOf(8, where(last)).Nodes}, api.ErrFit)
}

// P16.2, P16.3: great trees with faults at the first, the last, and drawn nodes.
func TestCheckGreatTrees(t *testing.T) {
	draw := drawer(2)
	for _, n := range []int{64, 65, 256, 257, 1024, 1025, 4095, 4096} {
		for _, f := range []fill{where(none), where(all), where(last), where(thirds)} {
			tree := treeOf(n, f)
			judge(t, tree)
			places := wantPlaces(n)
			for i := range 12 {
				number := []int{0, len(places) - 1, below(draw, len(places)), len(places) - 1 - below(draw, 6)%len(places)}[i%4]
				faulty := copied(tree)
				drawChange(draw)(&faulty.Nodes[number])
				if i%3 == 0 {
					repair(faulty, places[number])
				}
				checkCheck(t, faulty, wantCheck(faulty))
			}
		}
	}
}

// P16.3: the nodes at all places, and none at others.
func TestAt(t *testing.T) {
	beyond := []int{-1, -2, -4, -1 << 32, 1 - 1<<32, 256, 1 << 16, 1 << 32, 1<<32 + 1, math.MinInt, math.MinInt + 1, math.MaxInt - 1, math.MaxInt}
	for _, n := range smallNumbers {
		for _, f := range []fill{where(none), where(thirds), where(all)} {
			tree := treeOf(n, f)
			for level := -2; level < 8; level++ {
				for index := -2; index < n+2; index++ {
					if p := place(level, index); hasPlace(n, p) {
						checkAt(t, tree, p, tree.Nodes[wantNumber(n, p)], api.OK)
					} else {
						checkAt(t, tree, p, api.Node{}, api.ErrArg)
					}
				}
			}
			for _, i := range beyond {
				checkAt(t, tree, place(i, 0), api.Node{}, api.ErrArg)
				checkAt(t, tree, place(0, i), api.Node{}, api.ErrArg)
				checkAt(t, tree, place(wantHeight(n), i), api.Node{}, api.ErrArg)
				checkAt(t, tree, place(i, i), api.Node{}, api.ErrArg)
			}
		}
	}
}

// P16.3: the first and the last node of each level of great trees, and those behind them.
func TestAtGreatTrees(t *testing.T) {
	for _, n := range []int{64, 65, 256, 257, 1024, 1025, 4096} {
		tree := treeOf(n, where(all))
		for level := range 7 {
			count := wantCount(n, level)
			for _, index := range []int{-1, 0, count / 2, count - 1, count} {
				if p := place(level, index); hasPlace(n, p) {
					checkAt(t, tree, p, tree.Nodes[wantNumber(n, p)], api.OK)
				} else {
					checkAt(t, tree, p, api.Node{}, api.ErrArg)
				}
			}
		}
	}
}

// P16.3, P16.8: the records of the tree that Build returned are the records.
func TestRecords(t *testing.T) {
	for _, n := range slices.Concat(smallNumbers, allNumbers) {
		for i, f := range fills() {
			if n > 1000 && i > 4 {
				continue
			}
			s := sourceOf(n, f)
			tree := good(t, s)
			checkRecords(t, tree, s.records, api.OK)
			checkCheck(t, tree, api.OK)
			checkRoot(t, tree, digestOf(tree.Nodes[len(tree.Nodes)-1]), api.OK)
		}
	}
}

// P16.7: the order of the errors, written out.
func TestDifferOrder(t *testing.T) {
	fine, other := treeOf(21, where(all)), treeOf(20, where(all))
	misfit, altered := copied(fine), copied(fine)
	misfit.Nodes[3].Index = 9
	altered.Nodes[8].Entries[0].Digest = ascending(0)
	short := merkles.Tree{Blocks: 21, Nodes: fine.Nodes[1:]}
	for _, x := range []struct {
		a, b merkles.Tree
		want api.Errno
	}{
		{misfit, altered, api.ErrFit}, {altered, misfit, api.ErrIntegrity}, {short, misfit, api.ErrArg}, {misfit, short, api.ErrFit}, {altered, short, api.ErrIntegrity},
		{misfit, other, api.ErrFit}, {other, misfit, api.ErrFit}, {altered, other, api.ErrIntegrity}, {other, altered, api.ErrIntegrity}, {misfit, misfit, api.ErrFit}, {altered, altered, api.ErrIntegrity},
		{fine, other, api.ErrArg}, {other, fine, api.ErrArg}, {fine, fine, api.ErrNone}, {fine, copied(fine), api.ErrNone}, {fine, treeOf(21, where(none)), api.ErrNone},
		// These have the same nodes, and so the same root, but not as many blocks.
		{treeOf(5, where(first)), treeOf(8, where(first)), api.ErrArg}, {treeOf(1, where(none)), treeOf(4, where(none)), api.ErrArg},
	} {
		checkNoDifference(t, x.a, x.b, x.want)
	}
}

// P16.7, P16.8: all pairs of some trees; with as many blocks and the same root they are equal, as nobody knows two nodes with the same digest.
func TestDifferPairs(t *testing.T) {
	var trees []merkles.Tree
	for _, n := range []int{1, 4, 5, 8, 17} {
		for _, f := range fills() {
			for _, slots := range []func(int) int{zeros, ones, alternating} {
				trees = append(trees, good(t, source{n, recordsOf(n, f), slotsOf(n, slots)}))
			}
		}
	}
	equal := 0
	for i, a := range trees {
		for j, b := range trees {
			if a.Blocks != b.Blocks {
				checkNoDifference(t, a, b, api.ErrArg)
				continue
			}
			checkNoDifference(t, a, b, api.ErrNone)
			r, _ := merkles.Root(a)
			s, _ := merkles.Root(b)
			if (r == s) != sameTree(a, b) {
				t.Fatalf("the trees %d and %d have the roots %x and %x", i, j, r, s)
			}
			if r == s && i != j {
				equal++
			}
		}
	}
	if equal == 0 {
		t.Fatal("no two of the trees are equal")
	}
	for _, n := range []int{1024, 1025, 4096} {
		a := treeOf(n, where(all))
		for _, b := range []merkles.Tree{a, copied(a), treeOf(n, where(butLast)), treeOf(n, where(none))} {
			checkNoDifference(t, a, b, api.ErrNone)
		}
	}
}

// What a call was given, and what it returned, share no memory, and behind a slice nothing is written.
func TestMemory(t *testing.T) {
	for _, n := range []int{1, 3, 4, 5, 16, 21, 65} {
		for _, f := range []fill{where(none), where(thirds), where(all)} {
			checkBuildMemory(t, sourceOf(n, f))
			checkTreeMemory(t, sourceOf(n, f).tree())
		}
	}
}

func checkBuildMemory(t *testing.T, s source) {
	t.Helper()
	total := len(s.slots)
	l, slots := append(slices.Clone(s.records), written(7)), append(slices.Clone(s.slots), 7)
	tree, e := merkles.Build(s.n, l[:s.n], slots[:total])
	if e != api.OK || l[s.n] != written(7) || slots[total] != 7 {
		t.Fatalf("Build: %d; behind its arguments are %v and %d", e, l[s.n], slots[total])
	}
	clear(l)
	clear(slots)
	checkKept(t, tree, s.tree())
	again, _ := merkles.Build(s.n, s.records, s.slots)
	clear(tree.Nodes)
	checkKept(t, again, s.tree())
}

func checkTreeMemory(t *testing.T, want merkles.Tree) {
	t.Helper()
	n, size, mark := want.Blocks, len(want.Nodes), api.Node{Level: 99}
	behind := append(slices.Clone(want.Nodes), mark)
	tree := merkles.Tree{Blocks: n, Nodes: behind[:size]}
	for block := range n {
		p, _ := merkles.Prove(tree, block)
		merkles.Verify(n, rootOf(want), p)
		merkles.Collide(n, rootOf(want), p, p)
		clear(p.Nodes)
		if l, _ := merkles.Records(tree); len(l) == n {
			clear(l)
		}
	}
	merkles.Root(tree)
	merkles.At(tree, place(0, 0))
	merkles.Differ(tree, tree)
	checkKept(t, tree, want)
	if behind[size] != mark {
		t.Fatalf("a call wrote %v behind the nodes", behind[size])
	}
	p, _ := merkles.Prove(tree, n-1)
	q, _ := merkles.Prove(tree, n-1)
	clear(tree.Nodes)
	clear(q.Nodes)
	if !sameProof(p, wantProof(want, n-1)) {
		t.Fatal("a proof shares memory with its tree, or with another one")
	}
}

func checkKept(t *testing.T, tree, want merkles.Tree) {
	t.Helper()
	if !sameTree(tree, want) {
		t.Fatalf("the tree became %s, want %s", show(tree), show(want))
	}
}

// Calls at the same time on the same arguments have the results that each of them has alone.
func TestTogether(t *testing.T) {
	s := sourceOf(65, where(thirds))
	want := s.tree()
	var wait sync.WaitGroup
	for range 8 {
		wait.Go(func() {
			tree, e := merkles.Build(s.n, s.records, s.slots)
			if e != api.OK || !sameTree(tree, want) || merkles.Check(want) != api.OK {
				t.Errorf("Build and Check at the same time: %d", e)
			}
			for block := range 65 {
				if p, e := merkles.Prove(want, block); e != api.OK || !sameProof(p, wantProof(want, block)) {
					t.Errorf("Prove(.., %d) at the same time: %v, %d", block, p, e)
				}
			}
		})
	}
	wait.Wait()
}
