package cells_test

import (
	"encoding/hex"
	"math"
	"math/big"
	"slices"
	"sync"
	"testing"

	"caisson/api"
	"caisson/cells"
	"caisson/digests"
)

const greatest = math.MaxUint64

// The digests of the empty root nodes of each height, as another program (Python's hashlib) computes them.
var emptyRoots = []string{
	"babd6f664158d665504571b169a1e81ef75470cdca4fdd7d95be6cdb7826136d",
	"49ececc521296fd01030020f4e92c6614e386f50caf9938917f7dea046c6277e",
	"cdc5acd7f9c657dde09ca8ccb546eb161b7ac07cc9c5b4b76a2f0bbc04f321ff",
	"6e4289a917ae50e6f013cdc27eec4a37bc0a0248f71c2764bd6093b0e468592a",
	"1543a187f2a12f6f880da0d4f511212e8eeafde08d99993615f668fae98d1406",
	"3662e7fa1bf4af53787ffd7b1c45218d5e0d77ac8b132228aadefb61d0c98031",
}

var badNumbers = []int{0, -1, -2, -4, -5, -4096, -4097, 4097, 4098, 4100, 5000, 16384, 1 << 16, 1<<16 + 1, 1 << 32, 1<<32 + 1, 1<<32 + 5, 1 - 1<<32, math.MinInt, math.MinInt + 1, math.MinInt + 5, math.MaxInt - 1, math.MaxInt}

// Numbers at which something may change its kind: small ones, those around a power of two whose bits a smaller type loses, and the greatest ones.
var edges = []uint64{0, 1, 2, 3, 4, 7, 10, 255, 256, 1<<31 - 1, 1 << 31, 1<<32 - 1, 1 << 32, 1<<32 + 1, 1<<63 - 1, 1 << 63, 1<<63 + 1, greatest - 2, greatest - 1, greatest}

var (
	r = ascending(0)
	s = ascending(101)
)

// ascending returns a digest, each byte of which is one more than the one before it.
func ascending(first byte) api.Digest {
	var d api.Digest
	for i := range d {
		d[i] = first + byte(i)
	}
	return d
}

// flipped returns a digest of which one bit is another one.
func flipped(d api.Digest, bit int) api.Digest {
	d[bit/8] ^= 1 << (bit % 8)
	return d
}

func cell(root api.Digest, epoch, mark uint64) api.Cell {
	return api.Cell{Root: root, Epoch: epoch, Mark: mark}
}

// drawer returns a function whose results are always the same sequence of numbers without a visible rule.
func drawer(seed uint64) func() uint64 {
	return func() uint64 {
		seed += 0x9e3779b97f4a7c15
		z := (seed ^ seed>>30) * 0xbf58476d1ce4e5b9
		z = (z ^ z>>27) * 0x94d049bb133111eb
		return z ^ z>>31
	}
}

// wantHeight returns how often a number of blocks is to be divided by four behind its groups.
func wantHeight(n int) int {
	height, room := 0, 4
	for room < n {
		height, room = height+1, room*4
	}
	return height
}

// wantFresh returns the fresh cell of a valid number of blocks.
func wantFresh(n int) api.Cell {
	b, e := hex.DecodeString(emptyRoots[wantHeight(n)])
	if e != nil {
		panic(e)
	}
	return api.Cell{Root: api.Digest(b)}
}

// wantKind says how b follows a, by numbers without an end.
func wantKind(a, b api.Cell) cells.Kind {
	more := func(x, y uint64) *big.Int {
		return new(big.Int).Sub(new(big.Int).SetUint64(y), new(big.Int).SetUint64(x))
	}
	epochs, marks := more(a.Epoch, b.Epoch), more(a.Mark, b.Mark)
	switch {
	case epochs.Cmp(big.NewInt(1)) == 0 && marks.Sign() == 0:
		return cells.Commit
	case epochs.Sign() == 0 && marks.Sign() > 0 && a.Root == b.Root:
		return cells.Reservation
	}
	return cells.None
}

// wantFault returns the first index from a place on, up to another one, of a cell that does not follow the one before, or none.
func wantFault(log []api.Cell, from, to int) int {
	for i := from; i <= to; i++ {
		if wantKind(log[i-1], log[i]) == cells.None {
			return i
		}
	}
	return -1
}

func wantSound(n int, log []api.Cell) (int, api.Errno) {
	switch {
	case n < 1 || n > 4096:
		return 0, api.ErrArg
	case len(log) == 0:
		return 0, api.ErrEmpty
	case log[0] != wantFresh(n):
		return 0, api.ErrArg
	}
	if at := wantFault(log, 1, len(log)-1); at >= 0 {
		return at, api.ErrOrder
	}
	return 0, api.OK
}

func wantCommits(log []api.Cell) []int {
	var l []int
	for i := range log {
		if i > 0 && wantKind(log[i-1], log[i]) == cells.Commit {
			l = append(l, i)
		}
	}
	return l
}

func wantBetween(log []api.Cell, from, to int) (uint64, uint64, api.Errno) {
	switch {
	case from < 0 || from >= len(log) || to < 0 || to >= len(log) || from > to:
		return 0, 0, api.ErrArg
	case wantFault(log, from+1, to) >= 0:
		return 0, 0, api.ErrOrder
	}
	return log[to].Epoch - log[from].Epoch, log[to].Mark - log[from].Mark, api.OK
}

func checkFresh(t *testing.T, n int, want api.Cell, err api.Errno) {
	t.Helper()
	if got, e := cells.Fresh(n); got != want || e != err {
		t.Fatalf("Fresh(%d) = %x, %d, want %x, %d", n, got, e, want, err)
	}
}

func checkNext(t *testing.T, c api.Cell, root api.Digest, want api.Cell, err api.Errno) {
	t.Helper()
	if got, e := cells.Next(c, root); got != want || e != err {
		t.Fatalf("Next(%x, %x) = %x, %d, want %x, %d", c, root, got, e, want, err)
	}
}

func checkReserve(t *testing.T, c api.Cell, by, limit uint64, want api.Cell, err api.Errno) {
	t.Helper()
	if got, e := cells.Reserve(c, by, limit); got != want || e != err {
		t.Fatalf("Reserve(%x, %d, %d) = %x, %d, want %x, %d", c, by, limit, got, e, want, err)
	}
}

func checkFollows(t *testing.T, a, b api.Cell, want cells.Kind) {
	t.Helper()
	if got := cells.Follows(a, b); got != want {
		t.Fatalf("Follows(%x, %x) = %d, want %d", a, b, got, want)
	}
}

func checkSlot(t *testing.T, c api.Cell, want int) {
	t.Helper()
	if got := cells.Slot(c); got != want {
		t.Fatalf("Slot(%x) = %d, want %d", c, got, want)
	}
}

func checkSound(t *testing.T, n int, log []api.Cell, at int, err api.Errno) {
	t.Helper()
	before := slices.Clone(log)
	if got, e := cells.Sound(n, log); got != at || e != err {
		t.Fatalf("Sound(%d, %x) = %d, %d, want %d, %d", n, log, got, e, at, err)
	}
	if !slices.Equal(log, before) {
		t.Fatalf("Sound(%d, %x) made the log %x", n, before, log)
	}
}

func checkCommits(t *testing.T, log []api.Cell, want []int) {
	t.Helper()
	before := slices.Clone(log)
	got := cells.Commits(log)
	if !slices.Equal(got, want) || cap(got) != len(got) {
		t.Fatalf("Commits(%x) = %d with room for %d, want %d", log, got, cap(got), want)
	}
	if !slices.Equal(log, before) {
		t.Fatalf("Commits(%x) made the log %x", before, log)
	}
}

func checkBetween(t *testing.T, log []api.Cell, from, to int, epochs, marks uint64, err api.Errno) {
	t.Helper()
	before := slices.Clone(log)
	if a, b, e := cells.Between(log, from, to); a != epochs || b != marks || e != err {
		t.Fatalf("Between(%x, %d, %d) = %d, %d, %d, want %d, %d, %d", log, from, to, a, b, e, epochs, marks, err)
	}
	if !slices.Equal(log, before) {
		t.Fatalf("Between(%x, %d, %d) made the log %x", before, from, to, log)
	}
}

// indices returns numbers that are around those of a log, and such that lose high bits, or wrap around, into them.
func indices(size int) []int {
	var l []int
	for i := -3; i < size+3; i++ {
		l = append(l, i)
	}
	return append(l, -256, -1<<32, 1-1<<32, 256, 1<<16, 1<<32, 1<<32+1, math.MinInt, math.MinInt+1, math.MaxInt-1, math.MaxInt)
}

// checkLog checks all that is said of a log by the definitions.
func checkLog(t *testing.T, n int, log []api.Cell) {
	t.Helper()
	at, err := wantSound(n, log)
	checkSound(t, n, log, at, err)
	checkCommits(t, log, wantCommits(log))
	for from := -1; from <= len(log); from++ {
		for to := -1; to <= len(log); to++ {
			epochs, marks, err := wantBetween(log, from, to)
			checkBetween(t, log, from, to, epochs, marks, err)
		}
	}
}

// P15.1 to P15.5: the examples of the chapter.
func TestExamples(t *testing.T) {
	checkFresh(t, 1, cell(digests.Of(make([]byte, 185)), 0, 0), api.OK)
	checkNext(t, cell(r, 4, 7), s, cell(s, 5, 7), api.OK)
	checkNext(t, cell(r, greatest, 0), s, api.Cell{}, api.ErrLimit)
	checkReserve(t, cell(r, 4, 7), 3, 10, cell(r, 4, 10), api.OK)
	checkReserve(t, cell(r, 4, 7), 4, 10, api.Cell{}, api.ErrNonce)
	checkReserve(t, cell(r, 4, 7), 0, 10, api.Cell{}, api.ErrArg)
	checkFollows(t, cell(r, 4, 7), cell(r, 5, 7), cells.Commit)
	checkFollows(t, cell(r, 4, 7), cell(r, 5, 8), cells.None)
	checkFollows(t, cell(r, 4, 7), cell(s, 4, 8), cells.None)
	checkSlot(t, cell(r, 5, 7), 1)
	checkSound(t, 1, nil, 0, api.ErrEmpty)
	checkSound(t, 1, []api.Cell{}, 0, api.ErrEmpty)
}

// Kinds have the numbers that the chapter gives them.
func TestKinds(t *testing.T) {
	if cells.None != 0 || cells.Commit != 1 || cells.Reservation != 2 {
		t.Fatal(cells.None, cells.Commit, cells.Reservation)
	}
}

// P15.1: the fresh cells of all numbers of blocks.
func TestFresh(t *testing.T) {
	for n := 1; n <= 4096; n++ {
		checkFresh(t, n, wantFresh(n), api.OK)
	}
	for _, n := range badNumbers {
		checkFresh(t, n, api.Cell{}, api.ErrArg)
	}
}

// P15.1: the numbers of blocks at which the height changes, and their heights, written out.
func TestFreshHeights(t *testing.T) {
	heights := map[int]int{1: 0, 4: 0, 5: 1, 16: 1, 17: 2, 64: 2, 65: 3, 256: 3, 257: 4, 1024: 4, 1025: 5, 4096: 5}
	for n, height := range heights {
		got, e := cells.Fresh(n)
		if hex.EncodeToString(got.Root[:]) != emptyRoots[height] || got.Epoch != 0 || got.Mark != 0 || e != api.OK {
			t.Errorf("Fresh(%d) = %x, %d, want the root %s", n, got, e, emptyRoots[height])
		}
	}
}

// P15.1: the slot is told by the epoch alone.
func TestSlot(t *testing.T) {
	for _, x := range []struct {
		epoch uint64
		slot  int
	}{{0, 0}, {1, 1}, {2, 0}, {3, 1}, {4, 0}, {255, 1}, {256, 0}, {1<<32 - 1, 1}, {1 << 32, 0}, {1<<32 + 1, 1}, {1<<63 - 1, 1}, {1 << 63, 0}, {1<<63 + 1, 1}, {greatest - 2, 1}, {greatest - 1, 0}, {greatest, 1}} {
		for _, mark := range edges {
			checkSlot(t, cell(r, x.epoch, mark), x.slot)
			checkSlot(t, cell(s, x.epoch, mark), x.slot)
			checkSlot(t, cell(api.Digest{}, x.epoch, mark), x.slot)
		}
	}
}

// P15.2: all parts of the cell behind a commit, with the root that there is already and with other ones.
func TestNext(t *testing.T) {
	for _, mark := range edges {
		for _, root := range []api.Digest{r, s, {}, flipped(r, 0), flipped(r, 255)} {
			for _, x := range []struct{ epoch, next uint64 }{{0, 1}, {1, 2}, {4, 5}, {255, 256}, {1<<32 - 1, 1 << 32}, {1<<63 - 1, 1 << 63}, {greatest - 2, greatest - 1}, {greatest - 1, greatest}} {
				checkNext(t, cell(r, x.epoch, mark), root, cell(root, x.next, mark), api.OK)
			}
			checkNext(t, cell(r, greatest, mark), root, api.Cell{}, api.ErrLimit)
		}
	}
}

// wantReserve returns the cell behind a reservation, by numbers without an end.
func wantReserve(c api.Cell, by, limit uint64) (api.Cell, api.Errno) {
	sum := new(big.Int).Add(new(big.Int).SetUint64(c.Mark), new(big.Int).SetUint64(by))
	switch {
	case by == 0:
		return api.Cell{}, api.ErrArg
	case sum.Cmp(new(big.Int).SetUint64(limit)) > 0:
		return api.Cell{}, api.ErrNonce
	}
	return cell(c.Root, c.Epoch, sum.Uint64()), api.OK
}

// P15.3: all small marks, numbers and limits, and those at the ends, against the definition.
func TestReserve(t *testing.T) {
	numbers := slices.Concat(edges, []uint64{5, 6, 8, 9, 1<<62 - 1, 1 << 62, 1<<63 - 2, 1<<63 + 2, greatest - 3, greatest - 10})
	for _, mark := range numbers {
		for _, by := range numbers {
			for _, limit := range numbers {
				for _, c := range []api.Cell{cell(r, 4, mark), cell(s, greatest, mark), cell(api.Digest{}, 0, mark)} {
					want, err := wantReserve(c, by, limit)
					checkReserve(t, c, by, limit, want, err)
				}
			}
		}
	}
}

// P15.3: the edges that the definition has, written out.
func TestReserveEdges(t *testing.T) {
	for _, x := range []struct {
		mark, by, limit uint64
		want            uint64
		err             api.Errno
	}{
		{0, 1, 1, 1, api.OK}, {0, 1, 0, 0, api.ErrNonce}, {0, 2, 1, 0, api.ErrNonce},
		{7, 1, 10, 8, api.OK}, {7, 3, 10, 10, api.OK}, {7, 4, 10, 0, api.ErrNonce},
		{10, 1, 10, 0, api.ErrNonce}, {11, 1, 10, 0, api.ErrNonce}, {11, greatest, 10, 0, api.ErrNonce}, {greatest, 1, 10, 0, api.ErrNonce},
		{7, 0, 10, 0, api.ErrArg}, {10, 0, 10, 0, api.ErrArg}, {11, 0, 10, 0, api.ErrArg}, {greatest, 0, 0, 0, api.ErrArg}, {0, 0, 0, 0, api.ErrArg}, {0, 0, greatest, 0, api.ErrArg},
		{0, greatest, greatest, greatest, api.OK}, {1, greatest, greatest, 0, api.ErrNonce}, {1, greatest - 1, greatest, greatest, api.OK}, {7, greatest - 6, greatest, 0, api.ErrNonce}, {7, greatest - 6, 10, 0, api.ErrNonce},
		{greatest - 1, 1, greatest, greatest, api.OK}, {greatest - 1, 2, greatest, 0, api.ErrNonce}, {greatest, 1, greatest, 0, api.ErrNonce}, {greatest, greatest, greatest, 0, api.ErrNonce}, {greatest, 2, 1, 0, api.ErrNonce},
	} {
		want := api.Cell{}
		if x.err == api.OK {
			want = cell(r, 4, x.want)
		}
		checkReserve(t, cell(r, 4, x.mark), x.by, x.limit, want, x.err)
	}
}

// P15.4: all pairs of cells whose parts are at the edges, against the definition.
func TestFollows(t *testing.T) {
	roots := []api.Digest{r, s, {}}
	for _, e1 := range edges {
		for _, e2 := range edges {
			for _, m1 := range edges {
				for _, m2 := range edges {
					for _, root := range roots {
						a, b := cell(r, e1, m1), cell(root, e2, m2)
						checkFollows(t, a, b, wantKind(a, b))
					}
				}
			}
		}
	}
}

// P15.4: cells that differ in each part alone and in two, written out.
func TestFollowsParts(t *testing.T) {
	for _, x := range []struct {
		a, b api.Cell
		want cells.Kind
	}{
		{cell(r, 4, 7), cell(r, 4, 7), cells.None}, {cell(r, 4, 7), cell(s, 4, 7), cells.None},
		{cell(r, 4, 7), cell(r, 5, 7), cells.Commit}, {cell(r, 4, 7), cell(s, 5, 7), cells.Commit}, {cell(r, 4, 7), cell(s, 6, 7), cells.None}, {cell(r, 4, 7), cell(r, 6, 7), cells.None},
		{cell(r, 4, 7), cell(s, 3, 7), cells.None}, {cell(r, 4, 7), cell(r, 3, 7), cells.None}, {cell(r, 4, 7), cell(r, 3, 8), cells.None}, {cell(r, 4, 7), cell(r, 3, 6), cells.None},
		{cell(r, 4, 7), cell(r, 4, 8), cells.Reservation}, {cell(r, 4, 7), cell(r, 4, greatest), cells.Reservation}, {cell(r, 4, 7), cell(s, 4, 8), cells.None},
		{cell(r, 4, 7), cell(r, 4, 6), cells.None}, {cell(r, 4, 7), cell(r, 4, 0), cells.None}, {cell(r, 4, 7), cell(s, 4, 6), cells.None},
		{cell(r, 4, 7), cell(r, 5, 8), cells.None}, {cell(r, 4, 7), cell(s, 5, 8), cells.None}, {cell(r, 4, 7), cell(r, 5, 6), cells.None}, {cell(r, 4, 7), cell(s, 5, 6), cells.None},
		{cell(r, greatest, 7), cell(r, 0, 7), cells.None}, {cell(r, greatest, 7), cell(s, 0, 7), cells.None}, {cell(r, greatest, 0), cell(api.Digest{}, 0, 0), cells.None},
		{cell(r, greatest, 7), cell(r, greatest, 8), cells.Reservation}, {cell(r, greatest, greatest), cell(r, greatest, greatest), cells.None},
		{cell(r, greatest-1, greatest), cell(s, greatest, greatest), cells.Commit}, {cell(r, greatest, greatest), cell(s, greatest-1, greatest), cells.None},
		{cell(r, 4, greatest), cell(r, 4, 0), cells.None}, {cell(r, 4, 0), cell(r, 4, greatest), cells.Reservation}, {cell(r, 4, greatest-1), cell(r, 4, greatest), cells.Reservation},
		{api.Cell{}, api.Cell{}, cells.None}, {api.Cell{}, cell(api.Digest{}, 1, 0), cells.Commit}, {api.Cell{}, cell(api.Digest{}, 0, 1), cells.Reservation},
	} {
		checkFollows(t, x.a, x.b, x.want)
	}
}

// P15.4: each bit of the root counts for a reservation, and none for a commit; each bit of the numbers counts for both.
func TestFollowsBits(t *testing.T) {
	for bit := range 256 {
		other := flipped(r, bit)
		checkFollows(t, cell(r, 4, 7), cell(other, 4, 8), cells.None)
		checkFollows(t, cell(r, 4, 7), cell(other, 4, 7), cells.None)
		checkFollows(t, cell(r, 4, 7), cell(other, 5, 7), cells.Commit)
	}
	for bit := range 64 {
		step := uint64(1) << bit
		want := cells.None
		if step == 1 {
			want = cells.Commit
		}
		checkFollows(t, cell(r, 0, 7), cell(s, step, 7), want)
		checkFollows(t, cell(r, 0, 7), cell(r, step, 7+step), cells.None)
		checkFollows(t, cell(r, 4, 0), cell(r, 4, step), cells.Reservation)
	}
}

// step makes the next cell of a log; first is the first one.
type step func(last, first api.Cell, at int) api.Cell

// steps returns ways to go on: those that follow, and those that do not. Each commit has a root of its own if it does not keep the one that there is.
func steps() []step {
	return []step{
		func(c, _ api.Cell, at int) api.Cell { return cell(ascending(byte(at)*3), c.Epoch+1, c.Mark) },
		func(c, _ api.Cell, _ int) api.Cell { return cell(c.Root, c.Epoch+1, c.Mark) },
		func(c, _ api.Cell, _ int) api.Cell { return cell(c.Root, c.Epoch, c.Mark+1) },
		func(c, _ api.Cell, _ int) api.Cell { return cell(c.Root, c.Epoch, c.Mark+1<<40) },
		func(c, _ api.Cell, _ int) api.Cell { return c },
		func(c, _ api.Cell, _ int) api.Cell { return cell(flipped(c.Root, 77), c.Epoch, c.Mark) },
		func(c, _ api.Cell, _ int) api.Cell { return cell(flipped(c.Root, 255), c.Epoch, c.Mark+1) },
		func(c, _ api.Cell, _ int) api.Cell { return cell(c.Root, c.Epoch+1, c.Mark+1) },
		func(c, _ api.Cell, _ int) api.Cell { return cell(c.Root, c.Epoch+2, c.Mark) },
		func(c, _ api.Cell, _ int) api.Cell { return cell(c.Root, c.Epoch-1, c.Mark) },
		func(c, _ api.Cell, _ int) api.Cell { return cell(c.Root, c.Epoch, c.Mark-1) },
		func(_, first api.Cell, _ int) api.Cell { return first },
	}
}

// How many of the steps follow.
const sound = 4

// firsts returns cells that logs begin with: the fresh cells of all heights, and others, among them those from which the next steps go beyond the greatest number.
func firsts() []api.Cell {
	var l []api.Cell
	for _, n := range []int{1, 5, 17, 65, 257, 1025} {
		l = append(l, wantFresh(n))
	}
	fresh := wantFresh(5)
	return append(l, api.Cell{}, cell(fresh.Root, 1, 0), cell(fresh.Root, 0, 1), cell(flipped(fresh.Root, 255), 0, 0), cell(flipped(fresh.Root, 0), 0, 0), cell(r, greatest-1, greatest-1), cell(r, greatest, greatest))
}

// P15.5, P15.6: all logs of up to four cells that the steps make, behind each first cell.
func TestShortLogs(t *testing.T) {
	all := steps()
	for _, first := range firsts() {
		logs := [][]api.Cell{{first}}
		for length := 1; length <= 4; length++ {
			var longer [][]api.Cell
			for _, log := range logs {
				checkLog(t, 5, log)
				for _, next := range all {
					longer = append(longer, slices.Concat(log, []api.Cell{next(log[length-1], first, length)}))
				}
			}
			logs = longer
		}
	}
	checkLog(t, 5, nil)
	checkLog(t, 5, []api.Cell{})
}

// drawLog returns a log of cells that follow, behind the fresh one.
func drawLog(draw func() uint64, n, length int) []api.Cell {
	log := []api.Cell{wantFresh(n)}
	for len(log) < length {
		log = append(log, steps()[draw()%sound](log[len(log)-1], log[0], len(log)))
	}
	return log
}

// without returns a log of which a cell is left out.
func without(log []api.Cell, at int) []api.Cell { return slices.Delete(slices.Clone(log), at, at+1) }

// doubled returns a log in which a cell stands twice.
func doubled(log []api.Cell, at int) []api.Cell { return slices.Insert(slices.Clone(log), at, log[at]) }

// P15.5, P15.6: sound logs of all lengths up to 40 and of longer ones, for each height.
func TestSoundLogs(t *testing.T) {
	draw := drawer(15)
	for _, n := range []int{1, 4, 5, 16, 17, 64, 65, 256, 257, 1024, 1025, 4096} {
		for length := 1; length <= 40; length++ {
			log := drawLog(draw, n, length)
			checkSound(t, n, log, 0, api.OK)
			checkLog(t, n, log)
		}
	}
	for _, length := range []int{1000, 65537, 200000} {
		log := drawLog(draw, 17, length)
		checkSound(t, 17, log, 0, api.OK)
		checkCommits(t, log, wantCommits(log))
		last := log[length-1]
		checkBetween(t, log, 0, length-1, last.Epoch, last.Mark, api.OK)
		log[length-1].Epoch += 7
		checkSound(t, 17, log, length-1, api.ErrOrder)
		checkBetween(t, log, 0, length-1, 0, 0, api.ErrOrder)
		checkBetween(t, log, 0, length-2, log[length-2].Epoch, log[length-2].Mark, api.OK)
	}
}

// P15.5, P15.6: a fault at each place of a log, and two of them at each two places.
func TestFaults(t *testing.T) {
	draw := drawer(16)
	faults := steps()[sound:]
	for first := 1; first <= 12; first++ {
		for second := first; second <= 12; second++ {
			for i := range faults {
				log := []api.Cell{wantFresh(257)}
				for at := 1; at <= 12; at++ {
					next := steps()[draw()%sound]
					switch at {
					case first:
						next = faults[i]
					case second:
						next = faults[draw()%uint64(len(faults))]
					}
					log = append(log, next(log[at-1], log[0], at))
				}
				if wantKind(log[first-1], log[first]) == cells.None {
					checkSound(t, 257, log, first, api.ErrOrder)
					checkBetween(t, log, first-1, first, 0, 0, api.ErrOrder)
					checkBetween(t, log, 0, 12, 0, 0, api.ErrOrder)
				}
				checkLog(t, 257, log)
			}
		}
	}
}

// P15.5, P15.6: logs of which a cell is left out, doubled, or has one other bit, and logs backwards.
func TestChangedLogs(t *testing.T) {
	draw := drawer(17)
	log := drawLog(draw, 65, 20)
	for at := range log {
		checkLog(t, 65, without(log, at))
		checkLog(t, 65, doubled(log, at))
		checkSound(t, 65, doubled(log, at), at+1, api.ErrOrder)
		for range 20 {
			changed := slices.Clone(log)
			bit := int(draw() % 384)
			switch {
			case bit < 256:
				changed[at].Root = flipped(changed[at].Root, bit)
			case bit < 320:
				changed[at].Epoch ^= 1 << (bit - 256)
			default:
				changed[at].Mark ^= 1 << (bit - 320)
			}
			checkLog(t, 65, changed)
		}
	}
	slices.Reverse(log)
	checkLog(t, 65, log)
}

// P15.5: the errors, in the order that the definition names, and no index with them.
func TestSoundErrors(t *testing.T) {
	fresh := wantFresh(17)
	fault := []api.Cell{fresh, fresh}
	for _, n := range badNumbers {
		for _, log := range [][]api.Cell{nil, {}, {{}}, {fresh}, {wantFresh(1)}, {wantFresh(4096)}, fault, {cell(r, 4, 7), cell(r, 4, 7)}} {
			checkSound(t, n, log, 0, api.ErrArg)
		}
	}
	for n := 1; n <= 4096; n++ {
		checkSound(t, n, nil, 0, api.ErrEmpty)
		for _, other := range []int{1, 4, 5, 16, 17, 64, 65, 256, 257, 1024, 1025, 4096} {
			want, at := api.ErrArg, 0
			if wantHeight(n) == wantHeight(other) {
				want = api.OK
			}
			c := wantFresh(other)
			checkSound(t, n, []api.Cell{c}, 0, want)
			if want == api.OK {
				want, at = api.ErrOrder, 2
			}
			checkSound(t, n, []api.Cell{c, cell(c.Root, 1, 0), cell(c.Root, 3, 0), c}, at, want)
		}
	}
	for _, c := range []api.Cell{{}, cell(fresh.Root, 1, 0), cell(fresh.Root, 0, 1), cell(fresh.Root, greatest, 0), cell(fresh.Root, 0, greatest), cell(r, 0, 0)} {
		checkSound(t, 17, []api.Cell{c}, 0, api.ErrArg)
		checkSound(t, 17, []api.Cell{c, cell(r, c.Epoch+1, c.Mark)}, 0, api.ErrArg)
		checkSound(t, 17, []api.Cell{c, c}, 0, api.ErrArg)
		checkSound(t, 17, []api.Cell{c, fresh}, 0, api.ErrArg)
	}
	for bit := range 256 {
		checkSound(t, 17, []api.Cell{{Root: flipped(fresh.Root, bit)}}, 0, api.ErrArg)
	}
}

// P15.6: Commits of no cells, of one, of logs that are not sound, and of logs whose commits stand at each set of places.
func TestCommits(t *testing.T) {
	checkCommits(t, nil, nil)
	checkCommits(t, []api.Cell{}, nil)
	for _, c := range firsts() {
		checkCommits(t, []api.Cell{c}, nil)
		checkCommits(t, []api.Cell{c, c, c}, nil)
	}
	checkCommits(t, []api.Cell{cell(r, 4, 7), cell(s, 5, 7), cell(s, 9, 9), cell(r, 10, 9), cell(r, 10, 12), cell(r, 11, 12), cell(r, 11, 11), cell(r, 12, 11)}, []int{1, 3, 5, 7})
	checkCommits(t, []api.Cell{cell(r, greatest-1, 0), cell(s, greatest, 0), cell(r, 0, 0), cell(r, 1, 0)}, []int{1, 3})
	for set := range 1 << 8 {
		log, want := []api.Cell{cell(r, 4, 7)}, []int(nil)
		for at := 1; at <= 8; at++ {
			next := log[at-1]
			switch {
			case set>>(at-1)&1 == 1:
				next, want = cell(ascending(byte(at)), next.Epoch+1, next.Mark), append(want, at)
			case at%2 == 0:
				next.Mark += 5
			}
			log = append(log, next)
		}
		checkCommits(t, log, want)
	}
}

// P15.6: all pairs of indices, in and around a log, with faults before, between, at and behind them.
func TestBetween(t *testing.T) {
	first := wantFresh(5)
	log := []api.Cell{first}
	for _, kind := range []int{2, 0, 3, 1, 4, 0, 2, 7, 2, 2, 0, 8, 9, 3, 0} {
		log = append(log, steps()[kind](log[len(log)-1], first, len(log)))
	}
	for _, l := range [][]api.Cell{nil, {first}, {cell(r, greatest, greatest)}, log[:2], log, log[4:9], log[:5:5]} {
		for _, from := range indices(len(l)) {
			for _, to := range indices(len(l)) {
				epochs, marks, err := wantBetween(l, from, to)
				checkBetween(t, l, from, to, epochs, marks, err)
			}
		}
	}
}

// P15.6: results that are written out.
func TestBetweenWritten(t *testing.T) {
	log := []api.Cell{cell(r, 4, 7), cell(r, 4, 7), cell(s, 5, 7), cell(s, 5, 12), cell(r, 6, 12), cell(r, 8, 12), cell(r, 8, greatest)}
	for _, x := range []struct {
		from, to      int
		epochs, marks uint64
		err           api.Errno
	}{
		{0, 0, 0, 0, api.OK}, {1, 1, 0, 0, api.OK}, {6, 6, 0, 0, api.OK}, {0, 1, 0, 0, api.ErrOrder}, {0, 4, 0, 0, api.ErrOrder},
		{1, 2, 1, 0, api.OK}, {1, 3, 1, 5, api.OK}, {1, 4, 2, 5, api.OK}, {2, 3, 0, 5, api.OK}, {3, 4, 1, 0, api.OK}, {1, 5, 0, 0, api.ErrOrder}, {4, 5, 0, 0, api.ErrOrder}, {1, 6, 0, 0, api.ErrOrder}, {5, 6, 0, greatest - 12, api.OK},
		{1, 0, 0, 0, api.ErrArg}, {5, 4, 0, 0, api.ErrArg}, {6, 0, 0, 0, api.ErrArg}, {-1, 0, 0, 0, api.ErrArg}, {-1, -1, 0, 0, api.ErrArg}, {0, -1, 0, 0, api.ErrArg}, {6, 7, 0, 0, api.ErrArg}, {7, 7, 0, 0, api.ErrArg}, {0, 7, 0, 0, api.ErrArg}, {7, 6, 0, 0, api.ErrArg}, {-1, 7, 0, 0, api.ErrArg},
	} {
		checkBetween(t, log, x.from, x.to, x.epochs, x.marks, x.err)
	}
	checkBetween(t, []api.Cell{cell(r, 0, 0), cell(r, 0, greatest)}, 0, 1, 0, greatest, api.OK)
	checkBetween(t, []api.Cell{cell(r, greatest-1, greatest), cell(s, greatest, greatest)}, 0, 1, 1, 0, api.OK)
	checkBetween(t, []api.Cell{cell(r, greatest, 0), cell(s, 0, 0)}, 0, 1, 0, 0, api.ErrOrder)
}

// P15.7: in logs that Sound accepts epochs and marks never fall, commits are as many as the last epoch says, and cells with the same epoch have the same root.
func TestSoundConsequences(t *testing.T) {
	draw := drawer(18)
	accepted := 0
	for range 20000 {
		log := []api.Cell{wantFresh(17)}
		for length := draw() % 8; uint64(len(log)) <= length; {
			kind := draw() % sound
			if draw()%16 == 0 {
				kind = draw() % uint64(len(steps()))
			}
			log = append(log, steps()[kind](log[len(log)-1], log[0], len(log)))
		}
		if _, e := cells.Sound(17, log); e != api.OK {
			continue
		}
		accepted++
		checkConsequences(t, log)
	}
	if accepted < 10000 || accepted == 20000 {
		t.Fatalf("%d logs are sound", accepted)
	}
}

func checkConsequences(t *testing.T, log []api.Cell) {
	t.Helper()
	roots := map[uint64]api.Digest{}
	for i, c := range log {
		if i > 0 && (c.Epoch < log[i-1].Epoch || c.Mark < log[i-1].Mark) {
			t.Fatalf("%x falls at %d", log, i)
		}
		if root, ok := roots[c.Epoch]; ok && root != c.Root {
			t.Fatalf("%x has two roots of the epoch %d", log, c.Epoch)
		}
		roots[c.Epoch] = c.Root
	}
	last := log[len(log)-1]
	if commits := cells.Commits(log); uint64(len(commits)) != last.Epoch {
		t.Fatalf("%x has the commits %d", log, commits)
	}
	checkBetween(t, log, 0, len(log)-1, last.Epoch, last.Mark, api.OK)
}

// P15.7: what Next and Reserve return follows, whatever comes first of both.
func TestNextAndReserveFollow(t *testing.T) {
	for _, epoch := range edges {
		for _, mark := range edges {
			for _, by := range edges {
				for _, root := range []api.Digest{r, s, {}} {
					checkBoth(t, cell(r, epoch, mark), root, by)
				}
			}
		}
	}
}

func checkBoth(t *testing.T, c api.Cell, root api.Digest, by uint64) {
	t.Helper()
	next, e1 := cells.Next(c, root)
	if e1 == api.OK {
		checkFollows(t, c, next, cells.Commit)
		checkFollows(t, next, c, cells.None)
	}
	reserved, e2 := cells.Reserve(c, by, greatest)
	if e2 == api.OK {
		checkFollows(t, c, reserved, cells.Reservation)
		checkFollows(t, reserved, c, cells.None)
	}
	if e1 != api.OK || e2 != api.OK {
		return
	}
	a, e1 := cells.Reserve(next, by, greatest)
	b, e2 := cells.Next(reserved, root)
	if a != b || e1 != api.OK || e2 != api.OK {
		t.Fatalf("%x, %x, %d: %x, %d and %x, %d", c, root, by, a, e1, b, e2)
	}
	checkFollows(t, next, a, cells.Reservation)
	checkFollows(t, reserved, a, cells.Commit)
	checkFollows(t, c, a, cells.None)
}

// P15.7: a log that Next and Reserve make is sound, until no cell is left.
func TestMadeLogs(t *testing.T) {
	draw := drawer(19)
	for _, n := range []int{1, 5, 17, 65, 257, 1025} {
		c, e := cells.Fresh(n)
		log := []api.Cell{c}
		for mark := uint64(0); e == api.OK; {
			switch draw() % 3 {
			case 0:
				by := 1 + draw()%1000
				mark += by
				c, e = cells.Reserve(c, by, 20000)
			case 1:
				c, e = cells.Next(c, c.Root)
			default:
				c, e = cells.Next(c, ascending(byte(draw())))
			}
			if want := map[bool]api.Errno{true: api.ErrNonce}[mark > 20000]; e != want {
				t.Fatalf("error %d at the mark %d", e, mark)
			}
			if e == api.OK {
				log = append(log, c)
			}
		}
		if len(log) < 20 {
			t.Fatalf("%d cells", len(log))
		}
		checkSound(t, n, log, 0, api.OK)
		checkConsequences(t, log)
	}
}

// The indices of Commits are new memory.
func TestCommitsAreNew(t *testing.T) {
	log := drawLog(drawer(20), 5, 50)
	want := wantCommits(log)
	first, second := cells.Commits(log), cells.Commits(log)
	clear(first)
	_ = append(first, 99)
	if !slices.Equal(second, want) {
		t.Fatalf("Commits changed to %d", second)
	}
	checkCommits(t, log, want)
	clear(log)
	if !slices.Equal(second, want) {
		t.Fatalf("Commits changed to %d with the log", second)
	}
}

// Cells behind the end of a log have no part in any result.
func TestCellsBehindTheEnd(t *testing.T) {
	long := drawLog(drawer(21), 5, 12)
	for end := range long {
		log := long[:end]
		checkLog(t, 5, log)
		other := slices.Clone(long)
		clear(other[end:])
		checkLog(t, 5, other[:end])
	}
	if at, e := cells.Sound(5, long); at != 0 || e != api.OK {
		t.Fatalf("Sound = %d, %d", at, e)
	}
}

// Results depend on nothing that calls leave behind.
func TestCallsAtOnce(t *testing.T) {
	log := drawLog(drawer(22), 17, 300)
	bad := doubled(log, 200)
	want := wantCommits(log)
	var group sync.WaitGroup
	for range 8 {
		group.Go(func() {
			for n := 1; n <= 65; n++ {
				at, e := cells.Sound(n, bad)
				wantAt, wantErr := 0, api.ErrArg
				if n >= 17 && n <= 64 {
					wantAt, wantErr = 201, api.ErrOrder
				}
				epochs, marks, e2 := cells.Between(log, n, 299)
				if at != wantAt || e != wantErr || e2 != api.OK || epochs != log[299].Epoch-log[n].Epoch || marks != log[299].Mark-log[n].Mark || !slices.Equal(cells.Commits(log), want) {
					t.Errorf("n = %d: %d, %d, %d, %d, %d", n, at, e, epochs, marks, e2)
				}
			}
		})
	}
	group.Wait()
}
