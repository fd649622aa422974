package shapes_test

import (
	"fmt"
	"math"
	"math/rand/v2"
	"slices"
	"sync"
	"testing"

	"caisson/api"
	"caisson/shapes"
)

// node is a place of a model with all that the definitions say of it.
type node struct {
	place    shapes.Place
	parts    []int // the blocks, or the indices of the children
	from, to int
	parent   shapes.Place // none for the root
	which    int
}

// model is a tree that is built step by step: blocks are put into groups of four, these into fours again, until there is one.
type model struct {
	n       int
	levels  [][]node
	sectors []shapes.Sector // in the order of their numbers
}

func build(n int) model {
	m := model{n: n}
	for parts := n; ; {
		level := m.group(parts)
		m.levels = append(m.levels, level)
		if parts = len(level); parts == 1 {
			break
		}
	}
	m.number()
	return m
}

// group makes the level above those that there are, of as many parts.
func (m *model) group(parts int) []node {
	var level []node
	for part := range parts {
		if part%4 == 0 {
			level = append(level, node{place: shapes.Place{Level: len(m.levels), Index: len(level)}})
		}
		x := &level[len(level)-1]
		from, to := part, part+1
		if len(m.levels) > 0 {
			child := &m.levels[len(m.levels)-1][part]
			child.parent, child.which = x.place, len(x.parts)
			from, to = child.from, child.to
		}
		if len(x.parts) == 0 {
			x.from = from
		}
		x.to = to
		x.parts = append(x.parts, part)
	}
	return level
}

func (m *model) number() {
	for i := range m.n {
		m.sectors = append(m.sectors, shapes.Sector{Data: true, Index: i, Slot: 0}, shapes.Sector{Data: true, Index: i, Slot: 1})
	}
	for _, level := range m.levels {
		for _, x := range level {
			p := x.place
			m.sectors = append(m.sectors, shapes.Sector{Level: p.Level, Index: p.Index, Slot: 0}, shapes.Sector{Level: p.Level, Index: p.Index, Slot: 1})
		}
	}
}

func (m model) height() int { return len(m.levels) - 1 }

func (m model) places() []node { return slices.Concat(m.levels...) }

// at returns a place of a model, if there is one.
func (m model) at(p shapes.Place) (node, bool) {
	if p.Level < 0 || p.Level >= len(m.levels) || p.Index < 0 || p.Index >= len(m.levels[p.Level]) {
		return node{}, false
	}
	return m.levels[p.Level][p.Index], true
}

// path returns the places whose blocks include a block, from the root on.
func (m model) path(block int) []shapes.Place {
	var path []shapes.Place
	for _, level := range slices.Backward(m.levels) {
		for _, x := range level {
			if x.from <= block && block < x.to {
				path = append(path, x.place)
			}
		}
	}
	return path
}

// wantCounts returns the counts of the levels by the chapter's formula: a quarter, rounded up, until there is one.
func wantCounts(n int) []int {
	var l []int
	for {
		count := n / 4
		if 4*count < n {
			count++
		}
		l = append(l, count)
		if count == 1 {
			return l
		}
		n = count
	}
}

// numbers returns the numbers of blocks that are gone through one by one, with all places, blocks and sectors.
func numbers() []int {
	var l []int
	for n := 1; n <= 300; n++ {
		l = append(l, n)
	}
	return append(l, 511, 512, 513, 1000, 1023, 1024, 1025, 1028, 1029, 1365, 2047, 2048, 2049, 3071, 3072, 3073, 3999, 4092, 4093, 4094, 4095, 4096)
}

// edges returns the numbers of blocks that the chapter and the levels single out.
func edges() []int {
	return []int{1, 2, 3, 4, 5, 15, 16, 17, 63, 64, 65, 255, 256, 257, 1023, 1024, 1025, 4095, 4096}
}

// outside returns numbers that are none of those from 0 to size - 1: the nearest ones, the ends of int, and those that wrap around, or lose high bits, into the range.
func outside(size int) []int {
	l := []int{-1, -2, -3, -4, -5, size, size + 1, size + 3, size + 4, 2*size + 1, 4*size + 4, 4097, -4096, math.MinInt, math.MinInt + 1, math.MinInt + 4, math.MaxInt, math.MaxInt - 1, math.MaxInt - 4}
	for _, shift := range []int{8, 16, 31, 32, 33, 61, 62} {
		l = append(l, 1<<shift, 1<<shift-1, -1<<shift, 1<<shift+size-1)
	}
	return slices.DeleteFunc(l, func(i int) bool { return 0 <= i && i < size })
}

// badNumbers returns numbers of blocks that are not valid.
func badNumbers() []int {
	l := []int{0, -1, -2, -4, -5, -16, -4095, -4096, -4097, 4097, 4098, 4100, 5000, 8192, 16384, 16385, 1 << 20, math.MinInt, math.MinInt + 1, math.MaxInt, math.MaxInt - 1, math.MaxInt - 3}
	for _, shift := range []int{16, 31, 32, 33, 62} {
		l = append(l, 1<<shift, 1<<shift+1, 1<<shift+5, 1<<shift+4096, -1<<shift, -1<<shift+1, -1<<shift+5)
	}
	return l
}

// check fails if what a call returned is not what is wanted.
func check[T comparable](t *testing.T, name string, got, want T, e, wantE api.Errno) {
	t.Helper()
	if got != want || e != wantE {
		t.Fatalf("%s = %v, %d, want %v, %d", name, got, e, want, wantE)
	}
}

// pair holds two results of one call.
type pair struct{ a, b any }

func checkCount(t *testing.T, n, level, want int, wantE api.Errno) {
	t.Helper()
	got, e := shapes.Count(n, level)
	check(t, fmt.Sprintf("Count(%d, %d)", n, level), got, want, e, wantE)
}

func checkParts(t *testing.T, n int, p shapes.Place, want int, wantE api.Errno) {
	t.Helper()
	got, e := shapes.Parts(n, p.Level, p.Index)
	check(t, fmt.Sprintf("Parts(%d, %d, %d)", n, p.Level, p.Index), got, want, e, wantE)
}

func checkParent(t *testing.T, n int, p, want shapes.Place, wantWhich int, wantE api.Errno) {
	t.Helper()
	got, which, e := shapes.Parent(n, p)
	check(t, fmt.Sprintf("Parent(%d, %v)", n, p), pair{got, which}, pair{want, wantWhich}, e, wantE)
}

func checkChild(t *testing.T, n int, p shapes.Place, which int, want shapes.Place, wantE api.Errno) {
	t.Helper()
	got, e := shapes.Child(n, p, which)
	check(t, fmt.Sprintf("Child(%d, %v, %d)", n, p, which), got, want, e, wantE)
}

func checkGroup(t *testing.T, n, block int, want shapes.Place, wantWhich int, wantE api.Errno) {
	t.Helper()
	got, which, e := shapes.Group(n, block)
	check(t, fmt.Sprintf("Group(%d, %d)", n, block), pair{got, which}, pair{want, wantWhich}, e, wantE)
}

func checkPath(t *testing.T, n, block int, want []shapes.Place, wantE api.Errno) {
	t.Helper()
	got, e := shapes.Path(n, block)
	if !slices.Equal(got, want) || e != wantE {
		t.Fatalf("Path(%d, %d) = %v, %d, want %v, %d", n, block, got, e, want, wantE)
	}
	if cap(got) != len(got) {
		t.Fatalf("Path(%d, %d): %d places with a capacity of %d", n, block, len(got), cap(got))
	}
}

func checkBlocks(t *testing.T, n int, p shapes.Place, wantFrom, wantTo int, wantE api.Errno) {
	t.Helper()
	from, to, e := shapes.Blocks(n, p)
	check(t, fmt.Sprintf("Blocks(%d, %v)", n, p), pair{from, to}, pair{wantFrom, wantTo}, e, wantE)
}

func checkData(t *testing.T, n, block, slot, want int, wantE api.Errno) {
	t.Helper()
	got, e := shapes.Data(n, block, slot)
	check(t, fmt.Sprintf("Data(%d, %d, %d)", n, block, slot), got, want, e, wantE)
}

func checkNode(t *testing.T, n int, p shapes.Place, slot, want int, wantE api.Errno) {
	t.Helper()
	got, e := shapes.Node(n, p.Level, p.Index, slot)
	check(t, fmt.Sprintf("Node(%d, %d, %d, %d)", n, p.Level, p.Index, slot), got, want, e, wantE)
}

func checkOf(t *testing.T, n, sector int, want shapes.Sector, wantE api.Errno) {
	t.Helper()
	got, e := shapes.Of(n, sector)
	check(t, fmt.Sprintf("Of(%d, %d)", n, sector), got, want, e, wantE)
}

// checkNoPlace fails if a function accepts a place that does not exist, whatever its other arguments are.
func checkNoPlace(t *testing.T, n int, p shapes.Place) {
	t.Helper()
	checkParts(t, n, p, 0, api.ErrArg)
	checkParent(t, n, p, shapes.Place{}, 0, api.ErrArg)
	checkBlocks(t, n, p, 0, 0, api.ErrArg)
	for _, i := range []int{0, 1, 2, 3, 4, -1, math.MinInt, math.MaxInt} {
		checkChild(t, n, p, i, shapes.Place{}, api.ErrArg)
		checkNode(t, n, p, i, 0, api.ErrArg)
	}
}

// checkNoBlock fails if a function accepts a block that does not exist.
func checkNoBlock(t *testing.T, n, block int) {
	t.Helper()
	checkGroup(t, n, block, shapes.Place{}, 0, api.ErrArg)
	checkPath(t, n, block, nil, api.ErrArg)
	for _, slot := range []int{0, 1, 2, -1, math.MinInt, math.MaxInt} {
		checkData(t, n, block, slot, 0, api.ErrArg)
	}
}

func checkNumber(t *testing.T, n, height, total, sectors int, wantE api.Errno) {
	t.Helper()
	if e := shapes.Check(n); e != wantE {
		t.Fatalf("Check(%d) = %d, want %d", n, e, wantE)
	}
	h, e := shapes.Height(n)
	check(t, fmt.Sprintf("Height(%d)", n), h, height, e, wantE)
	all, e := shapes.Total(n)
	check(t, fmt.Sprintf("Total(%d)", n), all, total, e, wantE)
	count, e := shapes.Sectors(n)
	check(t, fmt.Sprintf("Sectors(%d)", n), count, sectors, e, wantE)
}

func TestExamples(t *testing.T) {
	for n, want := range map[int]int{1: 0, 4: 0, 5: 1, 16: 1, 17: 2, 4096: 5} {
		h, e := shapes.Height(n)
		check(t, fmt.Sprintf("Height(%d)", n), h, want, e, api.OK)
	}
	checkCount(t, 5, 0, 2, api.OK)
	checkCount(t, 5, 1, 1, api.OK)
	checkNumber(t, 5, 1, 3, 16, api.OK)
	checkPath(t, 17, 16, []shapes.Place{{Level: 2, Index: 0}, {Level: 1, Index: 1}, {Level: 0, Index: 4}}, api.OK)
	checkParts(t, 17, shapes.Place{Level: 1, Index: 1}, 1, api.OK)
	checkParts(t, 17, shapes.Place{Level: 2, Index: 0}, 2, api.OK)
	checkBlocks(t, 17, shapes.Place{Level: 1, Index: 1}, 16, 17, api.OK)
	checkData(t, 5, 4, 1, 9, api.OK)
	checkNode(t, 5, shapes.Place{Level: 0, Index: 1}, 0, 12, api.OK)
	checkNode(t, 5, shapes.Place{Level: 1, Index: 0}, 1, 15, api.OK)
	checkOf(t, 5, 9, shapes.Sector{Data: true, Index: 4, Slot: 1}, api.OK)
	checkOf(t, 5, 13, shapes.Sector{Level: 0, Index: 1, Slot: 1}, api.OK)
	checkOf(t, 5, 16, shapes.Sector{}, api.ErrArg)
	checkChild(t, 17, shapes.Place{Level: 2, Index: 0}, 2, shapes.Place{}, api.ErrNone)
	checkChild(t, 17, shapes.Place{Level: 0, Index: 0}, 0, shapes.Place{}, api.ErrNone)
	checkParent(t, 17, shapes.Place{Level: 2, Index: 0}, shapes.Place{}, 0, api.ErrNone)
}

// The numbers of this test were counted by hand.
func TestKnownShapes(t *testing.T) {
	for _, x := range []struct {
		n       int
		counts  []int
		total   int
		sectors int
	}{
		{1, []int{1}, 1, 4},
		{4, []int{1}, 1, 10},
		{5, []int{2, 1}, 3, 16},
		{16, []int{4, 1}, 5, 42},
		{17, []int{5, 2, 1}, 8, 50},
		{64, []int{16, 4, 1}, 21, 170},
		{65, []int{17, 5, 2, 1}, 25, 180},
		{256, []int{64, 16, 4, 1}, 85, 682},
		{257, []int{65, 17, 5, 2, 1}, 90, 694},
		{1024, []int{256, 64, 16, 4, 1}, 341, 2730},
		{1025, []int{257, 65, 17, 5, 2, 1}, 347, 2744},
		{4095, []int{1024, 256, 64, 16, 4, 1}, 1365, 10920},
		{4096, []int{1024, 256, 64, 16, 4, 1}, 1365, 10922},
	} {
		checkNumber(t, x.n, len(x.counts)-1, x.total, x.sectors, api.OK)
		for level, want := range x.counts {
			checkCount(t, x.n, level, want, api.OK)
		}
	}
}

// P12.1 for all numbers of blocks.
func TestAllNumbers(t *testing.T) {
	for n := 1; n <= api.MaxBlocks; n++ {
		counts, total := wantCounts(n), 0
		for level, want := range counts {
			checkCount(t, n, level, want, api.OK)
			total += want
		}
		checkNumber(t, n, len(counts)-1, total, 2*n+2*total, api.OK)
		for _, level := range []int{-1, len(counts), len(counts) + 1, math.MinInt, math.MaxInt} {
			checkCount(t, n, level, 0, api.ErrArg)
		}
		if len(counts) > api.MaxLevel+1 {
			t.Fatalf("%d blocks have %d levels", n, len(counts))
		}
	}
}

// No function accepts a number of blocks that is not valid, whatever the other arguments are.
func TestBadNumbers(t *testing.T) {
	others := []int{0, 1, 2, 3, 4, 5, -1, -2, 16, 4095, 4096, math.MinInt, math.MaxInt}
	for _, n := range badNumbers() {
		checkNumber(t, n, 0, 0, 0, api.ErrArg)
		for _, i := range append(others, n, n-1, n+1, n/4, 2*n) {
			checkCount(t, n, i, 0, api.ErrArg)
			checkNoBlock(t, n, i)
			checkOf(t, n, i, shapes.Sector{}, api.ErrArg)
			for _, j := range others {
				checkNoPlace(t, n, shapes.Place{Level: i, Index: j})
				checkNoPlace(t, n, shapes.Place{Level: j, Index: i})
			}
		}
	}
}

// P12.1 against the trees that are built step by step.
func TestNumbers(t *testing.T) {
	for _, n := range numbers() {
		m := build(n)
		checkNumber(t, n, m.height(), len(m.places()), len(m.sectors), api.OK)
		for level, nodes := range m.levels {
			checkCount(t, n, level, len(nodes), api.OK)
		}
	}
}

func TestCountOfBadLevels(t *testing.T) {
	for _, n := range edges() {
		for _, level := range outside(build(n).height() + 1) {
			checkCount(t, n, level, 0, api.ErrArg)
		}
	}
}

// P12.2 to P12.4 for each place.
func TestPlaces(t *testing.T) {
	for _, n := range numbers() {
		m := build(n)
		for _, x := range m.places() {
			checkParts(t, n, x.place, len(x.parts), api.OK)
			checkBlocks(t, n, x.place, x.from, x.to, api.OK)
			if x.place.Level == m.height() {
				checkParent(t, n, x.place, shapes.Place{}, 0, api.ErrNone)
			} else {
				checkParent(t, n, x.place, x.parent, x.which, api.OK)
			}
			checkChildren(t, n, x)
		}
	}
}

func checkChildren(t *testing.T, n int, x node) {
	t.Helper()
	for which := range 4 {
		if x.place.Level == 0 || which >= len(x.parts) {
			checkChild(t, n, x.place, which, shapes.Place{}, api.ErrNone)
		} else {
			checkChild(t, n, x.place, which, shapes.Place{Level: x.place.Level - 1, Index: x.parts[which]}, api.OK)
		}
	}
	// That a part has no such number comes before that there is none.
	for _, which := range []int{-1, 4, 5, -4, math.MinInt, math.MaxInt} {
		checkChild(t, n, x.place, which, shapes.Place{}, api.ErrArg)
	}
}

// The chapter's cases of places with one, two, three and four parts, and of the root that is a group, are among those of TestPlaces.
func TestPlacesOfAllKinds(t *testing.T) {
	groups, above := map[int]bool{}, map[int]bool{}
	for _, n := range numbers() {
		for _, x := range build(n).places() {
			if x.place.Level == 0 {
				groups[len(x.parts)] = true
			} else {
				above[len(x.parts)] = true
			}
		}
	}
	if len(groups) != 4 || len(above) != 4 {
		t.Fatalf("numbers of parts: %v, %v", groups, above)
	}
	for n := 1; n <= 4; n++ {
		root := shapes.Place{}
		checkParts(t, n, root, n, api.OK)
		checkBlocks(t, n, root, 0, n, api.OK)
		checkParent(t, n, root, shapes.Place{}, 0, api.ErrNone)
		for which := range 4 {
			checkChild(t, n, root, which, shapes.Place{}, api.ErrNone)
		}
		checkChild(t, n, root, 4, shapes.Place{}, api.ErrArg)
		checkChild(t, n, root, -1, shapes.Place{}, api.ErrArg)
	}
}

func TestBadPlaces(t *testing.T) {
	for _, n := range numbers() {
		m := build(n)
		for level, nodes := range m.levels {
			checkNoPlace(t, n, shapes.Place{Level: level, Index: -1})
			checkNoPlace(t, n, shapes.Place{Level: level, Index: len(nodes)})
		}
		for _, level := range []int{-1, m.height() + 1} {
			checkNoPlace(t, n, shapes.Place{Level: level, Index: 0})
		}
	}
}

func TestFarPlaces(t *testing.T) {
	for _, n := range edges() {
		m := build(n)
		for level, nodes := range m.levels {
			for _, index := range outside(len(nodes)) {
				checkNoPlace(t, n, shapes.Place{Level: level, Index: index})
			}
		}
		for _, level := range outside(m.height() + 1) {
			for _, index := range []int{0, 1, -1, n, math.MinInt, math.MaxInt} {
				checkNoPlace(t, n, shapes.Place{Level: level, Index: index})
			}
		}
	}
}

// What stands for a place is a whole place: a level and an index that exist, but not together, are none.
func TestMixedPlaces(t *testing.T) {
	for _, n := range []int{1, 4, 5, 16, 17, 64, 65, 100} {
		m := build(n)
		for level := -1; level <= m.height()+1; level++ {
			for index := -1; index <= n+1; index++ {
				p := shapes.Place{Level: level, Index: index}
				if _, ok := m.at(p); !ok {
					checkNoPlace(t, n, p)
				}
			}
		}
	}
}

// P12.3 and P12.4 for each block of few, and for blocks of many.
func TestBlocks(t *testing.T) {
	for _, n := range numbers() {
		m := build(n)
		step := 1
		if n > 300 {
			step = 61
		}
		for block := 0; block < n; block += step {
			checkBlock(t, m, block)
		}
		checkBlock(t, m, n-1)
		checkNoBlock(t, n, -1)
		checkNoBlock(t, n, n)
	}
}

func checkBlock(t *testing.T, m model, block int) {
	t.Helper()
	for _, group := range m.levels[0] {
		if which := slices.Index(group.parts, block); which >= 0 {
			checkGroup(t, m.n, block, group.place, which, api.OK)
		}
	}
	checkPath(t, m.n, block, m.path(block), api.OK)
}

func TestBadBlocks(t *testing.T) {
	for _, n := range edges() {
		for _, block := range outside(n) {
			checkNoBlock(t, n, block)
		}
	}
}

// P12.5 for each sector.
func TestSectors(t *testing.T) {
	for _, n := range numbers() {
		m := build(n)
		for i, want := range m.sectors {
			checkOf(t, n, i, want, api.OK)
			if want.Data {
				checkData(t, n, want.Index, want.Slot, i, api.OK)
			} else {
				checkNode(t, n, shapes.Place{Level: want.Level, Index: want.Index}, want.Slot, i, api.OK)
			}
		}
		checkOf(t, n, -1, shapes.Sector{}, api.ErrArg)
		checkOf(t, n, len(m.sectors), shapes.Sector{}, api.ErrArg)
	}
}

// The first and the last sector of the data and of each level, by the chapter's formula.
func TestBases(t *testing.T) {
	for n := 1; n <= api.MaxBlocks; n++ {
		checkData(t, n, 0, 0, 0, api.OK)
		checkData(t, n, n-1, 1, 2*n-1, api.OK)
		checkOf(t, n, 0, shapes.Sector{Data: true}, api.OK)
		checkOf(t, n, 2*n-1, shapes.Sector{Data: true, Index: n - 1, Slot: 1}, api.OK)
		base := 2 * n
		for level, count := range wantCounts(n) {
			last := count - 1
			checkNode(t, n, shapes.Place{Level: level}, 0, base, api.OK)
			checkNode(t, n, shapes.Place{Level: level, Index: last}, 1, base+2*last+1, api.OK)
			checkOf(t, n, base, shapes.Sector{Level: level}, api.OK)
			checkOf(t, n, base+2*last+1, shapes.Sector{Level: level, Index: last, Slot: 1}, api.OK)
			base += 2 * count
		}
		checkOf(t, n, base, shapes.Sector{}, api.ErrArg)
	}
}

func TestBadSectors(t *testing.T) {
	for _, n := range edges() {
		for _, sector := range outside(len(build(n).sectors)) {
			checkOf(t, n, sector, shapes.Sector{}, api.ErrArg)
		}
	}
}

func TestBadSlots(t *testing.T) {
	for _, n := range edges() {
		m := build(n)
		for _, slot := range outside(2) {
			for _, block := range []int{0, n / 2, n - 1} {
				checkData(t, n, block, slot, 0, api.ErrArg)
			}
			for level, nodes := range m.levels {
				checkNode(t, n, shapes.Place{Level: level}, slot, 0, api.ErrArg)
				checkNode(t, n, shapes.Place{Level: level, Index: len(nodes) - 1}, slot, 0, api.ErrArg)
			}
		}
	}
}

// must returns the result of a call that has no error.
func must[T any](t *testing.T, name string) func(T, api.Errno) T {
	return func(got T, e api.Errno) T {
		t.Helper()
		if e != api.OK {
			t.Fatalf("%s: error %d", name, e)
		}
		return got
	}
}

// P12.6: every sector is that of exactly one block or place, with one slot.
func TestSectorsAreTakenOnce(t *testing.T) {
	for _, n := range numbers() {
		number := must[int](t, fmt.Sprintf("n = %d", n))
		taken := make([]int, number(shapes.Sectors(n)))
		take := func(sector int, want shapes.Sector) {
			taken[sector]++
			checkOf(t, n, sector, want, api.OK)
		}
		for slot := range 2 {
			for i := range n {
				take(number(shapes.Data(n, i, slot)), shapes.Sector{Data: true, Index: i, Slot: slot})
			}
			for level := range number(shapes.Height(n)) + 1 {
				for j := range number(shapes.Count(n, level)) {
					take(number(shapes.Node(n, level, j, slot)), shapes.Sector{Level: level, Index: j, Slot: slot})
				}
			}
		}
		if i := slices.IndexFunc(taken, func(times int) bool { return times != 1 }); i >= 0 {
			t.Fatalf("n = %d: sector %d is taken %d times", n, i, taken[i])
		}
	}
}

// P12.6: the path of a block leads from the root to the block's group, by children, and back by parents.
func TestPathsLeadToGroups(t *testing.T) {
	for _, n := range numbers() {
		height := must[int](t, fmt.Sprintf("Height(%d)", n))(shapes.Height(n))
		for block := range n {
			path := must[[]shapes.Place](t, fmt.Sprintf("Path(%d, %d)", n, block))(shapes.Path(n, block))
			if len(path) != height+1 || path[0] != (shapes.Place{Level: height}) {
				t.Fatalf("Path(%d, %d) = %v with the height %d", n, block, path, height)
			}
			for i, p := range path[1:] {
				parent, which, e := shapes.Parent(n, p)
				check(t, fmt.Sprintf("Parent(%d, %v)", n, p), parent, path[i], e, api.OK)
				checkChild(t, n, parent, which, p, api.OK)
			}
			for _, p := range path {
				if from, to, e := shapes.Blocks(n, p); block < from || block >= to || e != api.OK {
					t.Fatalf("Blocks(%d, %v) = %d, %d, %d without the block %d", n, p, from, to, e, block)
				}
			}
			group, which, e := shapes.Group(n, block)
			check(t, fmt.Sprintf("Group(%d, %d)", n, block), group, path[height], e, api.OK)
			if 4*group.Index+which != block {
				t.Fatalf("Group(%d, %d) = %v, %d", n, block, group, which)
			}
		}
	}
}

// P12.6: the children of a place share its blocks among them, in order, and so do the blocks of a group.
func TestChildrenShareBlocks(t *testing.T) {
	for n := 1; n <= api.MaxBlocks; n += 1 + n/300*7 {
		number := must[int](t, fmt.Sprintf("n = %d", n))
		for level := range number(shapes.Height(n)) + 1 {
			for j := range number(shapes.Count(n, level)) {
				checkShares(t, n, shapes.Place{Level: level, Index: j})
			}
		}
	}
}

func checkShares(t *testing.T, n int, p shapes.Place) {
	t.Helper()
	from, to, e := shapes.Blocks(n, p)
	parts, e2 := shapes.Parts(n, p.Level, p.Index)
	if e != api.OK || e2 != api.OK || from >= to || parts < 1 || parts > 4 {
		t.Fatalf("n = %d, %v: blocks %d, %d, error %d, parts %d, error %d", n, p, from, to, e, parts, e2)
	}
	if p.Level == 0 {
		if to-from != parts {
			t.Fatalf("n = %d, %v: blocks %d, %d, parts %d", n, p, from, to, parts)
		}
		return
	}
	for which := range parts {
		child := must[shapes.Place](t, fmt.Sprintf("Child(%d, %v, %d)", n, p, which))(shapes.Child(n, p, which))
		childFrom, childTo, e := shapes.Blocks(n, child)
		if childFrom != from || childTo <= childFrom || e != api.OK {
			t.Fatalf("n = %d, %v, child %v: blocks %d, %d, error %d, want them from %d on", n, p, child, childFrom, childTo, e, from)
		}
		from = childTo
	}
	if from != to {
		t.Fatalf("n = %d, %v: the children's blocks end at %d, those of the place at %d", n, p, from, to)
	}
}

// P12.6: all parts of a level are together the count of the level below, or the number of blocks.
func TestPartsOfLevels(t *testing.T) {
	for n := 1; n <= api.MaxBlocks; n += 1 + n/300*5 {
		number := must[int](t, fmt.Sprintf("n = %d", n))
		below, total := n, 0
		for level := range number(shapes.Height(n)) + 1 {
			count, sum := number(shapes.Count(n, level)), 0
			for j := range count {
				sum += number(shapes.Parts(n, level, j))
			}
			if sum != below {
				t.Fatalf("n = %d: level %d has %d parts, want %d", n, level, sum, below)
			}
			below = count
			total += count
		}
		if below != 1 || total != number(shapes.Total(n)) {
			t.Fatalf("n = %d: the last count is %d, all are %d", n, below, total)
		}
	}
}

// Arguments drawn from those that exist and those that do not, against the definitions.
func TestDrawn(t *testing.T) {
	r := rand.New(rand.NewPCG(12, 6))
	for range 300 {
		n := 1 + r.IntN(api.MaxBlocks)
		m := build(n)
		for range 100 {
			p := shapes.Place{Level: r.IntN(m.height()+3) - 1, Index: r.IntN(n+2)>>r.IntN(13) - r.IntN(2)}
			which, slot := r.IntN(6)-1, r.IntN(4)-1
			x, ok := m.at(p)
			if !ok {
				checkNoPlace(t, n, p)
				continue
			}
			checkParts(t, n, p, len(x.parts), api.OK)
			checkBlocks(t, n, p, x.from, x.to, api.OK)
			switch {
			case which < 0 || which > 3:
				checkChild(t, n, p, which, shapes.Place{}, api.ErrArg)
			case p.Level == 0 || which >= len(x.parts):
				checkChild(t, n, p, which, shapes.Place{}, api.ErrNone)
			default:
				checkChild(t, n, p, which, m.levels[p.Level-1][x.parts[which]].place, api.OK)
			}
			if sector := slices.Index(m.sectors, shapes.Sector{Level: p.Level, Index: p.Index, Slot: slot}); sector >= 0 {
				checkNode(t, n, p, slot, sector, api.OK)
			} else {
				checkNode(t, n, p, slot, 0, api.ErrArg)
			}
		}
	}
}

// Paths share no memory with one another.
func TestPathsAreNew(t *testing.T) {
	for _, n := range edges() {
		for _, block := range []int{0, n - 1} {
			want := build(n).path(block)
			first, _ := shapes.Path(n, block)
			second, _ := shapes.Path(n, block)
			clear(first)
			if !slices.Equal(second, want) {
				t.Fatalf("Path(%d, %d) changed to %v", n, block, second)
			}
			_ = append(second, shapes.Place{Level: 9, Index: 9})
			clear(second)
			checkPath(t, n, block, want, api.OK)
		}
	}
}

// Results depend on nothing that calls leave behind.
func TestCallsAtOnce(t *testing.T) {
	var group sync.WaitGroup
	for range 4 {
		for _, n := range []int{0, 1, 5, 17, 1000, 4096, 4097} {
			m, block := model{}, max(n-1, 0)
			if shapes.Check(n) == api.OK {
				m = build(n)
			}
			wantPath, wantTotal := m.path(block), len(m.places())
			group.Go(func() {
				for range 50 {
					path, e := shapes.Path(n, block)
					total, e2 := shapes.Total(n)
					if !slices.Equal(path, wantPath) || total != wantTotal || e != shapes.Check(n) || e2 != e {
						t.Errorf("n = %d: %v, %d, %d, %d", n, path, e, total, e2)
					}
				}
			})
		}
	}
	group.Wait()
}
