package merkles

import (
	"bytes"
	"errors"
	"slices"
	"testing"

	"caisson/api"
	"caisson/nodes"
	"caisson/shapes"
)

// Nobody knows two nodes with the same digest, so what Collide and Differ return for them is tested here, behind their checks.

func bytesOf(t *testing.T, x api.Node) []byte {
	t.Helper()
	b, e := nodes.Put(x)
	if e != api.OK {
		t.Fatalf("Put(%v): error %d", x, e)
	}
	return b
}

// list returns nodes that are valid.
func list() []api.Node {
	return []api.Node{
		{Level: 2, Entries: [4]api.Entry{{State: 1, Digest: api.Digest{1}}}},
		{Level: 1, Index: 1, Entries: [4]api.Entry{2: {State: 2, Digest: api.Digest{2}}}},
		{Index: 6, Records: [4]api.Record{3: {State: 1, Nonce: api.Nonce{Shard: 1, Counter: 3}}}},
		{Index: 7},
	}
}

func checkDifference(t *testing.T, a, b []api.Node, at int) {
	t.Helper()
	c, d := slices.Clone(a), slices.Clone(b)
	x, y, e := firstDifference(a, b)
	if at < 0 {
		if len(x) != 0 || len(y) != 0 || e != api.ErrNone {
			t.Fatalf("the first difference of %v and %v is %x, %x, %d, want none", a, b, x, y, e)
		}
		return
	}
	if !bytes.Equal(x, bytesOf(t, a[at])) || !bytes.Equal(y, bytesOf(t, b[at])) || e != api.OK || cap(x) != len(x) || cap(y) != len(y) {
		t.Fatalf("the first difference of %v and %v is %x, %x, %d, want the nodes %d", a, b, x, y, e, at)
	}
	clear(x)
	clear(y)
	if !slices.Equal(a, c) || !slices.Equal(b, d) {
		t.Fatal("the lists were changed")
	}
}

// P16.6, P16.7: the bytes of the nodes at the first index at which two lists differ, in each part of a node.
func TestFirstDifference(t *testing.T) {
	changes := []func(*api.Node){
		func(x *api.Node) { x.Index ^= 1 << 31 },
		func(x *api.Node) { *x = api.Node{Level: 3} },
		func(x *api.Node) { *x = api.Node{Level: 0, Records: [4]api.Record{1: {State: 2}}} },
		func(x *api.Node) {
			*x = api.Node{Level: 1, Entries: [4]api.Entry{3: {State: 2, Digest: api.Digest{31: 1}}}}
		},
	}
	checkDifference(t, list(), list(), -1)
	checkDifference(t, nil, nil, -1)
	checkDifference(t, list(), nil, -1)
	checkDifference(t, nil, list(), -1)
	for i := range list() {
		checkDifference(t, list(), list()[:i], -1)
		for _, c := range changes {
			other := list()
			c(&other[i])
			checkDifference(t, list(), other, i)
			checkDifference(t, other, list(), i)
			checkDifference(t, other[:i+1], list(), i)
			checkDifference(t, other, list()[:i+1], i)
			checkDifference(t, other[:i], list(), -1)
			for j := i + 1; j < len(other); j++ {
				c(&other[j])
				checkDifference(t, other, list(), i)
			}
		}
	}
}

// P16.7: nodes are gone through by level downwards, and then by index.
func TestDownwards(t *testing.T) {
	for _, n := range []int{1, 4, 5, 16, 17, 21, 64, 65, 257, 1025, 4096} {
		total, _ := shapes.Total(n)
		l := make([]api.Record, n)
		for block := range l {
			l[block].State = uint8(block % 3)
		}
		tree, e := Build(n, l, make([]int, total))
		if e != api.OK {
			t.Fatalf("Build(%d, ..): error %d", n, e)
		}
		var want []api.Node
		for level := api.MaxLevel; level >= 0; level-- {
			for _, x := range tree.Nodes {
				if int(x.Level) == level {
					want = append(want, x)
				}
			}
		}
		before := slices.Clone(tree.Nodes)
		got := downwards(tree)
		if !slices.Equal(got, want) {
			t.Fatalf("%d blocks: the order of the nodes is %v", n, got)
		}
		clear(got)
		if !slices.Equal(tree.Nodes, before) {
			t.Fatalf("%d blocks: the tree was changed", n)
		}
	}
}

// checkPair checks what a search for two nodes returned; x and y are the nodes, if there is no error.
func checkPair(t *testing.T, gotX, gotY []byte, e api.Errno, x, y api.Node, want api.Errno) {
	t.Helper()
	var wantX, wantY []byte
	if want == api.OK {
		wantX, wantY = bytesOf(t, x), bytesOf(t, y)
	}
	if !bytes.Equal(gotX, wantX) || !bytes.Equal(gotY, wantY) || e != want {
		t.Fatalf("the nodes are %x and %x, %d, want %x and %x, %d", gotX, gotY, e, wantX, wantY, want)
	}
}

// P16.6: what Collide returns behind its checks, if proofs with different nodes had the same root.
func TestCollision(t *testing.T) {
	r, s := api.Record{State: 1}, api.Record{State: 2}
	for at := range list() {
		a, b := Proof{Block: 3, Nodes: list()}, Proof{Block: 3, Nodes: list()}
		for i := at; i < len(b.Nodes); i++ {
			b.Nodes[i].Index += 8
		}
		x, y, e := collision(a, b, r, s)
		checkPair(t, x, y, e, a.Nodes[at], b.Nodes[at], api.OK)
		x, y, e = collision(b, a, r, s)
		checkPair(t, x, y, e, b.Nodes[at], a.Nodes[at], api.OK)
		x, y, e = collision(a, Proof{Block: 3, Nodes: b.Nodes[:at+1]}, r, s)
		checkPair(t, x, y, e, a.Nodes[at], b.Nodes[at], api.OK)
		// The same record has no two proofs that count.
		x, y, e = collision(a, b, s, s)
		checkPair(t, x, y, e, api.Node{}, api.Node{}, api.ErrNone)
		b.Block = 2
		for _, other := range []api.Record{r, s} {
			x, y, e = collision(a, b, r, other)
			checkPair(t, x, y, e, api.Node{}, api.Node{}, api.ErrArg)
		}
	}
}

// treeOf21 returns a tree of 21 blocks: six groups, two nodes above them, and the root.
func treeOf21(t *testing.T) Tree {
	t.Helper()
	l := make([]api.Record, 21)
	for block := range l {
		l[block] = api.Record{State: uint8(1 + block%2), Nonce: api.Nonce{Counter: uint64(block)}}
	}
	tree, e := Build(21, l, make([]int, 9))
	if e != api.OK || len(tree.Nodes) != 9 {
		t.Fatalf("Build(21, ..): error %d, %d nodes", e, len(tree.Nodes))
	}
	return tree
}

// P16.7: what Differ returns behind its checks, if trees with different nodes had the same root: of two nodes that differ the one that is nearer to the root, or has the lower index.
func TestDifference(t *testing.T) {
	r, s := api.Digest{1}, api.Digest{2}
	order := []int{8, 6, 7, 0, 1, 2, 3, 4, 5}
	for i, first := range order {
		for _, second := range order[i:] {
			a, b := treeOf21(t), treeOf21(t)
			b.Nodes[first].Index ^= 64
			b.Nodes[second].Index ^= 128
			x, y, e := difference(a, b, r, r)
			checkPair(t, x, y, e, a.Nodes[first], b.Nodes[first], api.OK)
			x, y, e = difference(b, a, r, r)
			checkPair(t, x, y, e, b.Nodes[first], a.Nodes[first], api.OK)
			x, y, e = difference(a, b, r, s)
			checkPair(t, x, y, e, api.Node{}, api.Node{}, api.ErrNone)
			b.Blocks = 22
			for _, root := range []api.Digest{r, s} {
				x, y, e = difference(a, b, r, root)
				checkPair(t, x, y, e, api.Node{}, api.Node{}, api.ErrArg)
			}
		}
	}
	x, y, e := difference(treeOf21(t), treeOf21(t), r, r)
	checkPair(t, x, y, e, api.Node{}, api.Node{}, api.ErrNone)
}

// P16.2, P16.5: a fault says where the first wrong node is to stand.
func TestFaultPlaces(t *testing.T) {
	at := func(level, index int) shapes.Place { return shapes.Place{Level: level, Index: index} }
	places := []shapes.Place{at(0, 0), at(0, 1), at(0, 2), at(0, 3), at(0, 4), at(0, 5), at(1, 0), at(1, 1), at(2, 0)}
	for number, p := range places {
		tree := treeOf21(t)
		tree.Nodes[number].Index += 9
		checkFault(t, checkNodes(tree), p, api.ErrFit)
		if p.Level == 0 {
			continue
		}
		tree = treeOf21(t)
		tree.Nodes[number].Entries[0].Digest[31]++
		checkFault(t, checkNodes(tree), p, api.ErrIntegrity)
	}

	tree := treeOf21(t)
	root, e := Root(tree)
	if e != api.OK {
		t.Fatal(e)
	}
	path := []shapes.Place{at(2, 0), at(1, 1), at(0, 5)}
	for i, p := range path {
		l := []api.Node{tree.Nodes[8], tree.Nodes[7], tree.Nodes[5]}
		if err := checkProof(21, root, path, l); err != nil {
			t.Fatal(err)
		}
		if i < 2 {
			checkFault(t, checkProof(21, root, path, l[:i+1]), p, api.ErrIntegrity)
		}
		l[i].Index += 9
		checkFault(t, checkProof(21, root, path, l), p, api.ErrFit)
		l[i].Index -= 9
		if p.Level == 0 {
			l[i].Records[0].Tag[0]++
		} else {
			l[i].Entries[0].Digest[0]++
		}
		checkFault(t, checkProof(21, root, path, l), p, api.ErrIntegrity)
	}
}

func checkFault(t *testing.T, err error, p shapes.Place, want api.Errno) {
	t.Helper()
	var w wrong
	if !errors.As(err, &w) || w.place != p || errnoOf(err) != want {
		t.Fatalf("the fault is %v, want %d at %v", err, want, p)
	}
}

// outer wraps an error once more.
type outer struct{ inner error }

func (o outer) Error() string { return "outer: " + o.inner.Error() }
func (o outer) Unwrap() error { return o.inner }

// A fault is found however it is wrapped.
func TestErrnoOf(t *testing.T) {
	at := shapes.Place{Level: 1, Index: 2}
	for _, x := range []struct {
		err  error
		want api.Errno
	}{
		{nil, api.OK}, {fault(api.ErrFit), api.ErrFit}, {wrong{at, fault(api.ErrIntegrity)}, api.ErrIntegrity}, {outer{wrong{at, fault(api.ErrFit)}}, api.ErrFit}, {outer{fault(api.ErrNone)}, api.ErrNone}, {errors.New("another one"), api.OK},
	} {
		if got := errnoOf(x.err); got != x.want {
			t.Errorf("errnoOf(%v) = %d, want %d", x.err, got, x.want)
		}
	}
	if text := (wrong{at, fault(api.ErrFit)}).Error(); text != "error 17 at level 1, index 2" {
		t.Errorf("the text is %q", text)
	}
}
