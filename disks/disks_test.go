package disks_test

import (
	"bytes"
	"math"
	"reflect"
	"slices"
	"strings"
	"sync"
	"testing"

	"caisson/api"
	"caisson/disks"
)

// The numbers of sectors that the issue names.
var sizes = []int{1, 63, 64, 65, 128, disks.MaxSectors}

var badSizes = []int{0, -1, -2, -63, -64, -65, -10922, -10923, 10923, 10924, 10944, 10945, 1 << 16, 1 << 31, 1 << 32, 1<<32 + 1, 1<<32 + 64, 1 - 1<<32, math.MinInt, math.MinInt + 1, math.MaxInt - 1, math.MaxInt}

// content is the content of a sector, by the definition.
type content struct {
	there bool
	bytes string
}

func holds(s string) content { return content{true, s} }

// model is a disk by the definition: for each sector all contents that it had, the first one of which is absent.
type model struct{ sectors [][]content }

func newModel(n int) model {
	m := model{make([][]content, n)}
	for i := range m.sectors {
		m.sectors[i] = []content{{}}
	}
	return m
}

func (m model) has(sector int) bool { return sector >= 0 && sector < len(m.sectors) }

func (m model) now(sector int) content {
	l := m.sectors[sector]
	return l[len(l)-1]
}

// with returns the model in which a sector has one more content.
func (m model) with(sector int, c content) model {
	l := slices.Clone(m.sectors)
	l[sector] = slices.Concat(l[sector], []content{c})
	return model{l}
}

// act is a call that returns another disk, and what it has to do.
type act struct {
	kind   api.ActionKind // Edit: Write
	sector int
	bytes  string
	back   int
}

func write(sector int, b string) act  { return act{kind: api.Edit, sector: sector, bytes: b} }
func erase(sector int) act            { return act{kind: api.Erase, sector: sector} }
func replay(sector int, back int) act { return act{kind: api.Replay, sector: sector, back: back} }

func (a act) onDisk(d disks.Disk) (disks.Disk, api.Errno) {
	switch a.kind {
	case api.Edit:
		return d.Write(a.sector, []byte(a.bytes))
	case api.Erase:
		return d.Erase(a.sector)
	}
	return d.Replay(a.sector, a.back)
}

func (a act) onModel(m model) (model, api.Errno) {
	if !m.has(a.sector) {
		return model{}, api.ErrArg
	}
	switch a.kind {
	case api.Edit:
		if len(a.bytes) > 256 {
			return model{}, api.ErrLimit
		}
		return m.with(a.sector, holds(a.bytes)), api.OK
	case api.Erase:
		return m.with(a.sector, content{}), api.OK
	}
	l := m.sectors[a.sector]
	switch {
	case a.back < 0:
		return model{}, api.ErrArg
	case a.back > len(l)-1:
		return model{}, api.ErrNone
	}
	return m.with(a.sector, l[len(l)-1-a.back]), api.OK
}

// pair is a disk with its model.
type pair struct {
	d disks.Disk
	m model
}

func newPair(t *testing.T, n int) pair {
	t.Helper()
	d, e := disks.New(n)
	if e != api.OK {
		t.Fatalf("New(%d): error %d", n, e)
	}
	return pair{d, newModel(n)}
}

// after returns what an act makes of a disk and its model, and checks the error, and that there is nothing with an error; then the pair stays as it is.
func (p pair) after(t *testing.T, a act) pair {
	t.Helper()
	m, want := a.onModel(p.m)
	d, e := a.onDisk(p.d)
	if e != want {
		t.Fatalf("%+v: error %d, want %d", a, e, want)
	}
	if e != api.OK {
		checkNothing(t, d)
		return p
	}
	return pair{d, m}
}

func (p pair) afterAll(t *testing.T, acts ...act) pair {
	t.Helper()
	for _, a := range acts {
		p = p.after(t, a)
	}
	return p
}

// checkNothing fails if a disk is not the zero one.
func checkNothing(t *testing.T, d disks.Disk) {
	t.Helper()
	if !reflect.DeepEqual(d, disks.Disk{}) {
		t.Fatalf("there is a disk of %d sectors with an error", d.Size())
	}
}

// checkContent checks what Read or Version returned.
func checkContent(t *testing.T, call string, b []byte, e api.Errno, want content) {
	t.Helper()
	switch {
	case !want.there && (e != api.ErrNone || len(b) != 0):
		t.Fatalf("%s = %x, %d, want ErrNone", call, b, e)
	case want.there && (e != api.OK || string(b) != want.bytes):
		t.Fatalf("%s = %x, %d, want %x", call, b, e, want.bytes)
	}
}

// checkNoBytes fails if a call returned bytes, or another error.
func checkNoBytes(t *testing.T, call string, b []byte, e, want api.Errno) {
	t.Helper()
	if len(b) != 0 || e != want {
		t.Fatalf("%s = %x, %d, want the error %d", call, b, e, want)
	}
}

// checkSector checks all that can be read of a sector.
func (p pair) checkSector(t *testing.T, sector int) {
	t.Helper()
	l := p.m.sectors[sector]
	b, e := p.d.Read(sector)
	checkContent(t, "Read", b, e, l[len(l)-1])
	if n, e := p.d.Versions(sector); n != len(l)-1 || e != api.OK {
		t.Fatalf("Versions(%d) = %d, %d, want %d", sector, n, e, len(l)-1)
	}
	for k, want := range l {
		b, e := p.d.Version(sector, k)
		checkContent(t, "Version", b, e, want)
	}
	for _, k := range []int{-1, len(l)} {
		b, e := p.d.Version(sector, k)
		checkNoBytes(t, "Version", b, e, api.ErrArg)
	}
}

// checkWhole checks what can be read of a disk as a whole.
func (p pair) checkWhole(t *testing.T) {
	t.Helper()
	var present []int
	changes := 0
	for sector, l := range p.m.sectors {
		changes += len(l) - 1
		if p.m.now(sector).there {
			present = append(present, sector)
		}
	}
	if n := p.d.Size(); n != len(p.m.sectors) {
		t.Fatalf("Size() = %d, want %d", n, len(p.m.sectors))
	}
	if l := p.d.Present(); !slices.Equal(l, present) {
		t.Fatalf("Present() = %v, want %v", l, present)
	}
	if n := p.d.Changes(); n != changes {
		t.Fatalf("Changes() = %d, want %d", n, changes)
	}
}

// check checks a disk against its model, with each sector.
func (p pair) check(t *testing.T) {
	t.Helper()
	p.checkWhole(t)
	for sector := range p.m.sectors {
		p.checkSector(t, sector)
	}
}

// wantSame tells whether two models have the same contents now.
func wantSame(a, b model) bool {
	return slices.EqualFunc(a.sectors, b.sectors, func(x, y []content) bool { return x[len(x)-1] == y[len(y)-1] })
}

// checkSame checks Same of two disks in both orders.
func checkSame(t *testing.T, a, b disks.Disk, want bool) {
	t.Helper()
	if disks.Same(a, b) != want || disks.Same(b, a) != want {
		t.Fatalf("Same of disks of %d and %d sectors = %v, and %v the other way round, want %v", a.Size(), b.Size(), disks.Same(a, b), disks.Same(b, a), want)
	}
}

// drawer returns a function whose results are always the same sequence of numbers without a visible rule.
func drawer(seed uint64) func(below int) int {
	return func(below int) int {
		seed += 0x9e3779b97f4a7c15
		z := (seed ^ seed>>30) * 0xbf58476d1ce4e5b9
		z = (z ^ z>>27) * 0x94d049bb133111eb
		return int((z ^ z>>31) >> 1 % uint64(below))
	}
}

// edges returns sectors of a disk at its ends, and at the limits of 64.
func edges(n int) []int {
	var l []int
	for _, sector := range []int{0, 1, 2, 31, 62, 63, 64, 65, 126, 127, 128, 129, 191, 192, 4095, 4096, n / 2, n - 66, n - 65, n - 64, n - 2, n - 1} {
		if sector >= 0 && sector < n && !slices.Contains(l, sector) {
			l = append(l, sector)
		}
	}
	return l
}

// beyond returns numbers that are those of no sector: the nearest ones, those at the end of the last 64, the ends of int, and those that lose high bits into the range.
func beyond(n int) []int {
	l := []int{-1, -2, -63, -64, -65, -n, n, n + 1, n + 62, n + 63, n + 64, 2 * n, disks.MaxSectors, disks.MaxSectors + 1, 1 << 16, 1 << 32, 1<<32 + n - 1, n - 1 - 1<<32, math.MinInt, math.MinInt + 1, math.MaxInt - 1, math.MaxInt}
	for end := n; end%64 != 0; end++ {
		l = append(l, end)
	}
	return slices.DeleteFunc(l, func(sector int) bool { return sector >= 0 && sector < n })
}

// The chapter's examples.
func TestExamples(t *testing.T) {
	p := newPair(t, 4).afterAll(t, write(2, "\x01"), write(2, "\x02"))
	d := p.d
	if d.Size() != 4 || d.Changes() != 2 || !slices.Equal(d.Present(), []int{2}) {
		t.Errorf("Size, Changes, Present: %d, %d, %v", d.Size(), d.Changes(), d.Present())
	}
	b, e := d.Read(2)
	checkContent(t, "Read(2)", b, e, holds("\x02"))
	b, e = d.Read(0)
	checkNoBytes(t, "Read(0)", b, e, api.ErrNone)
	b, e = d.Read(4)
	checkNoBytes(t, "Read(4)", b, e, api.ErrArg)
	if n, e := d.Versions(2); n != 2 || e != api.OK {
		t.Errorf("Versions(2) = %d, %d", n, e)
	}
	once, e := d.Replay(2, 1)
	b, bad := once.Read(2)
	checkContent(t, "Replay(2, 1): Read(2)", b, bad, holds("\x01"))
	gone, f := d.Replay(2, 2)
	b, bad = gone.Read(2)
	checkNoBytes(t, "Replay(2, 2): Read(2)", b, bad, api.ErrNone)
	none, g := d.Replay(2, 3)
	checkNothing(t, none)
	if e != api.OK || f != api.OK || g != api.ErrNone {
		t.Errorf("Replay(2, 1), (2, 2), (2, 3): errors %d, %d, %d", e, f, g)
	}
	twice, e := once.Replay(2, 1)
	b, bad = twice.Read(2)
	checkContent(t, "Replay(2, 1), Replay(2, 1): Read(2)", b, bad, holds("\x02"))
	if n, f := twice.Versions(2); n != 4 || e != api.OK || f != api.OK {
		t.Errorf("Replay(2, 1), Replay(2, 1): Versions(2) = %d, %d, %d", n, e, f)
	}
	b, e = d.Version(2, 0)
	checkNoBytes(t, "Version(2, 0)", b, e, api.ErrNone)
	b, e = d.Version(2, 1)
	checkContent(t, "Version(2, 1)", b, e, holds("\x01"))
	b, e = d.Version(2, 3)
	checkNoBytes(t, "Version(2, 3)", b, e, api.ErrArg)
	none, e = d.Write(0, make([]byte, 257))
	checkNothing(t, none)
	small, f := disks.New(0)
	checkNothing(t, small)
	great, g := disks.New(10923)
	checkNothing(t, great)
	if e != api.ErrLimit || f != api.ErrArg || g != api.ErrArg {
		t.Errorf("Write(0, 257 bytes), New(0), New(10923): errors %d, %d, %d", e, f, g)
	}
}

// P14.1: new disks of all numbers of sectors are absent everywhere, and never changed.
func TestNew(t *testing.T) {
	if disks.MaxSectors != 10922 {
		t.Errorf("MaxSectors = %d", disks.MaxSectors)
	}
	for n := 1; n <= disks.MaxSectors; n++ {
		if n < 200 || slices.Contains(sizes, n) {
			newPair(t, n).check(t)
		} else if d, e := disks.New(n); d.Size() != n || d.Changes() != 0 || e != api.OK {
			t.Fatalf("New(%d) has %d sectors and %d changes, error %d", n, d.Size(), d.Changes(), e)
		}
	}
}

// P14.1, R3
func TestNewOfBadNumbers(t *testing.T) {
	for _, n := range badSizes {
		d, e := disks.New(n)
		checkNothing(t, d)
		if e != api.ErrArg {
			t.Errorf("New(%d): error %d, want ErrArg", n, e)
		}
	}
}

// refuseSector checks that each method refuses a sector that a disk does not have, before it looks at its other argument.
func refuseSector(t *testing.T, d disks.Disk, sector int) {
	t.Helper()
	b, e := d.Read(sector)
	checkNoBytes(t, "Read", b, e, api.ErrArg)
	if n, e := d.Versions(sector); n != 0 || e != api.ErrArg {
		t.Fatalf("Versions(%d) = %d, %d, want ErrArg", sector, n, e)
	}
	for _, k := range []int{0, 1, 2, -1, math.MinInt, math.MaxInt} {
		b, e := d.Version(sector, k)
		checkNoBytes(t, "Version", b, e, api.ErrArg)
		next, e := d.Replay(sector, k)
		checkNothing(t, next)
		if e != api.ErrArg {
			t.Fatalf("Replay(%d, %d): error %d, want ErrArg", sector, k, e)
		}
	}
	for _, size := range []int{0, 1, 256, 257, 1000} {
		next, e := d.Write(sector, make([]byte, size))
		checkNothing(t, next)
		if e != api.ErrArg {
			t.Fatalf("Write(%d, %d bytes): error %d, want ErrArg", sector, size, e)
		}
	}
	next, e := d.Erase(sector)
	checkNothing(t, next)
	if e != api.ErrArg {
		t.Fatalf("Erase(%d): error %d, want ErrArg", sector, e)
	}
}

// R2, R3: sectors below 0, and beyond the end, of disks that are new, and of such whose sectors were changed.
func TestSectorsBeyond(t *testing.T) {
	for _, n := range append([]int{2, 3, 62, 66, 127, 129, 1000}, sizes...) {
		p := newPair(t, n)
		for range 2 {
			for _, sector := range beyond(n) {
				refuseSector(t, p.d, sector)
			}
			p.checkWhole(t)
			for _, sector := range edges(n) {
				p = p.afterAll(t, write(sector, "a"), erase(sector), write(sector, "b"))
			}
		}
	}
}

// The zero Disk has no sectors.
func TestZeroDisk(t *testing.T) {
	var d disks.Disk
	for _, sector := range append(beyond(1), 0, 1, 63, 64) {
		refuseSector(t, d, sector)
	}
	if d.Size() != 0 || d.Changes() != 0 || len(d.Present()) != 0 {
		t.Errorf("Size, Changes, Present: %d, %d, %v", d.Size(), d.Changes(), d.Present())
	}
	checkSame(t, d, disks.Disk{}, true)
	for _, n := range sizes {
		p := newPair(t, n)
		checkSame(t, d, p.d, false)
		checkSame(t, d, p.after(t, write(n-1, "")).d, false)
	}
	checkNothing(t, d)
}

// P14.2, P14.3: contents of all lengths up to MaxSector, and longer ones, which leave the disk as it is.
func TestLengths(t *testing.T) {
	if api.MaxSector != 256 {
		t.Fatalf("MaxSector = %d", api.MaxSector)
	}
	text := make([]byte, 1<<16)
	for i := range text {
		text[i] = byte(i*7 + i>>8)
	}
	for _, sector := range []int{0, 63, 64, 69} {
		p := newPair(t, 70)
		for size := range 300 {
			p = p.after(t, write(sector, string(text[:size])))
		}
		for _, size := range []int{512, 513, 1024, 65535, 65536} {
			p = p.after(t, write(sector, string(text[:size])))
		}
		p.check(t)
		if n, e := p.d.Versions(sector); n != 257 || e != api.OK {
			t.Errorf("Versions(%d) = %d, %d, want 257", sector, n, e)
		}
	}
	// What lies behind the bytes, in the capacity, does not count.
	d, e := newPair(t, 1).d.Write(0, text[:256])
	b, bad := d.Read(0)
	if e != api.OK || bad != api.OK || !bytes.Equal(b, text[:256]) {
		t.Errorf("Write of 256 bytes with more behind them: %x, %d, %d", b, e, bad)
	}
}

// P14.2: each byte keeps its value.
func TestEachByte(t *testing.T) {
	p := newPair(t, 1)
	for value := range 256 {
		p = p.after(t, write(0, strings.Repeat(string([]byte{byte(value)}), 1+value%256)))
	}
	for at := range 256 {
		b := make([]byte, 256)
		b[at] = 0xff
		p = p.after(t, write(0, string(b)))
	}
	p.check(t)
}

// P14.2, P14.6: no bytes, written as nil or as an empty slice, are a content, unlike an absent one.
func TestNoBytes(t *testing.T) {
	for _, none := range [][]byte{nil, {}, make([]byte, 0, 8)} {
		p := newPair(t, 65)
		for _, sector := range []int{0, 63, 64} {
			d, e := p.d.Write(sector, none)
			if e != api.OK {
				t.Fatalf("Write(%d, no bytes): error %d", sector, e)
			}
			checkSame(t, p.d, d, false)
			p = pair{d, p.m.with(sector, holds(""))}
			p.check(t)
			gone := p.after(t, erase(sector))
			gone.check(t)
			checkSame(t, p.d, gone.d, false)
			back := gone.after(t, replay(sector, 1))
			back.check(t)
			checkSame(t, p.d, back.d, true)
			never := back.after(t, replay(sector, 3))
			never.check(t)
			checkSame(t, gone.d, never.d, true)
		}
	}
}

// P14.3, P14.5: each call makes one change, also one that leaves the content as it is.
func TestEachCallIsAChange(t *testing.T) {
	for _, n := range sizes {
		for _, sector := range edges(n) {
			p := newPair(t, n)
			for i, a := range []act{
				erase(sector), erase(sector), replay(sector, 0), replay(sector, 3),
				write(sector, "same"), write(sector, "same"), write(sector, "same"), replay(sector, 0), replay(sector, 1),
				erase(sector), erase(sector), replay(sector, 1), replay(sector, 0), replay(sector, 5),
				write(sector, ""), write(sector, ""), replay(sector, 0),
			} {
				p = p.after(t, a)
				p.checkWhole(t)
				p.checkSector(t, sector)
				if got, e := p.d.Versions(sector); got != i+1 || e != api.OK || p.d.Changes() != i+1 {
					t.Fatalf("%+v as change %d: Versions %d, %d, Changes %d", a, i+1, got, e, p.d.Changes())
				}
			}
		}
	}
}

// pasts returns disks with sectors that were written, erased and replayed in several ways. The sector is the one that was changed most.
func pasts(t *testing.T, n, sector int) []pair {
	t.Helper()
	l := []pair{newPair(t, n)}
	for _, acts := range [][]act{
		{write(sector, "a")},
		{erase(sector)},
		{write(sector, ""), write(sector, "b")},
		{write(sector, "a"), write(sector, "b"), write(sector, "c"), write(sector, "d")},
		{write(sector, "a"), erase(sector)},
		{write(sector, "a"), erase(sector), write(sector, "b"), erase(sector), erase(sector), write(sector, "c")},
		{write(sector, "a"), write(sector, "b"), replay(sector, 1), replay(sector, 1), replay(sector, 2)},
		{write(sector, "a"), write(sector, "b"), replay(sector, 2), replay(sector, 1), write(sector, "c")},
		{replay(sector, 0), replay(sector, 1), replay(sector, 2), write(sector, "a"), replay(sector, 4)},
		{write(sector, "a"), write(n-1-sector, "x"), write(sector, "b"), erase(n - 1 - sector), write(sector, "c"), replay(n-1-sector, 1)},
	} {
		l = append(l, l[0].afterAll(t, acts...))
	}
	return l
}

// P14.4: Replay by each number of changes up to those that the sector has had, and beyond, also of the result again.
func TestReplay(t *testing.T) {
	for _, n := range []int{1, 64, 65, 128, 1000} {
		for _, sector := range edges(n) {
			for _, p := range pasts(t, n, sector) {
				changes := len(p.m.sectors[sector]) - 1
				for back := 0; back <= changes; back++ {
					next := p.after(t, replay(sector, back))
					next.checkWhole(t)
					next.checkSector(t, sector)
					for again := 0; again <= changes+2; again++ {
						next.after(t, replay(sector, again)).checkSector(t, sector)
					}
				}
				for _, back := range []int{-1, -2, -changes, -changes - 1, math.MinInt, math.MinInt + 1, changes + 1, changes + 2, 1 << 32, 1<<32 + 1, math.MaxInt - 1, math.MaxInt} {
					if back >= 0 && back <= changes {
						continue
					}
					want := api.ErrNone
					if back < 0 {
						want = api.ErrArg
					}
					d, e := p.d.Replay(sector, back)
					checkNothing(t, d)
					if e != want {
						t.Fatalf("Replay(%d, %d) after %d changes: error %d, want %d", sector, back, changes, e, want)
					}
				}
			}
		}
	}
}

// P14.4: what Replay counts are the changes of the sector alone.
func TestReplayCountsItsSector(t *testing.T) {
	p := newPair(t, 130)
	for i := range 20 {
		p = p.afterAll(t, write(63, "a"), write(65, "b"), erase(128))
		if i%5 == 0 {
			p = p.after(t, write(64, strings.Repeat("x", i)))
		}
	}
	for back := -1; back <= 6; back++ {
		next := p.after(t, replay(64, back))
		next.check(t)
		p.after(t, replay(0, back)).check(t)
	}
	p.check(t)
}

// P14.5: Version by each number up to Versions, and beyond.
func TestVersion(t *testing.T) {
	for _, n := range []int{1, 64, 65, 128, 1000} {
		for _, sector := range edges(n) {
			for _, p := range pasts(t, n, sector) {
				p.checkSector(t, sector)
				changes := len(p.m.sectors[sector]) - 1
				for _, k := range []int{-1, -2, -changes - 1, changes + 1, changes + 2, 1 << 32, -1 << 32, math.MinInt, math.MinInt + 1, math.MaxInt - 1, math.MaxInt} {
					b, e := p.d.Version(sector, k)
					checkNoBytes(t, "Version", b, e, api.ErrArg)
				}
			}
		}
	}
}

// P14.5, R1: a sector that was changed very often.
func TestManyVersions(t *testing.T) {
	p := newPair(t, 2)
	d, count := p.d, 200000
	for i := range count {
		var e api.Errno
		if d, e = d.Write(1, []byte{byte(i), byte(i >> 8), byte(i >> 16)}); e != api.OK {
			t.Fatalf("change %d: error %d", i, e)
		}
	}
	if n, e := d.Versions(1); n != count || e != api.OK || d.Changes() != count {
		t.Errorf("Versions(1) = %d, %d, Changes() = %d", n, e, d.Changes())
	}
	for _, k := range []int{1, 2, count / 2, count - 1, count} {
		want := []byte{byte(k - 1), byte((k - 1) >> 8), byte((k - 1) >> 16)}
		if b, e := d.Version(1, k); !bytes.Equal(b, want) || e != api.OK {
			t.Errorf("Version(1, %d) = %x, %d, want %x", k, b, e, want)
		}
		next, e := d.Replay(1, count-k)
		if b, bad := next.Read(1); !bytes.Equal(b, want) || e != api.OK || bad != api.OK {
			t.Errorf("Replay(1, %d): Read(1) = %x, %d, %d, want %x", count-k, b, e, bad, want)
		}
	}
	b, e := d.Version(1, 0)
	checkNoBytes(t, "Version(1, 0)", b, e, api.ErrNone)
	next, e := d.Replay(1, count)
	b, bad := next.Read(1)
	checkNoBytes(t, "Replay of all changes: Read", b, bad, api.ErrNone)
	if _, f := d.Replay(1, count+1); e != api.OK || f != api.ErrNone {
		t.Errorf("Replay(1, all), Replay(1, one more): errors %d, %d", e, f)
	}
}

// P14.6: Present is ascending, whatever the order of the changes was.
func TestPresent(t *testing.T) {
	for _, n := range sizes {
		p := newPair(t, n)
		l := edges(n)
		slices.Reverse(l)
		for i, sector := range l {
			p = p.after(t, write(sector, strings.Repeat("x", i)))
			p.checkWhole(t)
		}
		for _, sector := range l {
			if sector%2 == 0 {
				p = p.after(t, erase(sector))
				p.checkWhole(t)
			}
		}
		for _, sector := range l {
			p = p.after(t, replay(sector, 1))
			p.checkWhole(t)
		}
	}
}

// P14.6: a disk whose sectors are all there.
func TestPresentOfAll(t *testing.T) {
	for _, n := range []int{1, 63, 64, 65, 128, 200} {
		p := newPair(t, n)
		for sector := range n {
			p = p.after(t, write(n-1-sector, "x"))
			p.checkWhole(t)
		}
		if l := p.d.Present(); len(l) != n || l[0] != 0 || l[n-1] != n-1 {
			t.Errorf("Present() of %d sectors = %v", n, l)
		}
	}
}

// P14.6: what the sectors had before does not matter.
func TestSamePasts(t *testing.T) {
	for _, n := range []int{1, 63, 64, 65, 128, 1000} {
		var l []pair
		for _, sector := range edges(n) {
			l = append(l, pasts(t, n, sector)...)
		}
		same := 0
		for i, a := range l {
			for _, b := range l[i:] {
				checkSame(t, a.d, b.d, wantSame(a.m, b.m))
				if wantSame(a.m, b.m) {
					same++
				}
			}
		}
		if same <= len(l) || same == len(l)*(len(l)+1)/2 {
			t.Errorf("of %d disks %d pairs are the same", len(l), same)
		}
	}
}

// P14.6: contents that differ in one place, by length, or by being there, in any sector.
func TestSameOfEachSector(t *testing.T) {
	contents := []act{erase(0), write(0, ""), write(0, "\x00"), write(0, "\x01"), write(0, "\x00\x00"), write(0, "\x00\x01"), write(0, strings.Repeat("a", 256)), write(0, strings.Repeat("a", 255)+"b"), write(0, "b"+strings.Repeat("a", 255))}
	for _, n := range sizes {
		one := newPair(t, n)
		other := one.afterAll(t, write(0, "x"), replay(0, 1))
		for _, sector := range edges(n) {
			for i, a := range contents {
				for j, b := range contents {
					a.sector, b.sector = sector, sector
					checkSame(t, one.after(t, a).d, other.after(t, b).d, i == j)
				}
			}
		}
	}
}

// P14.6: the sectors' contents are compared in their places.
func TestSameOfSwapped(t *testing.T) {
	for _, x := range [][2]int{{0, 1}, {62, 63}, {63, 64}, {0, 64}, {0, 128}, {64, 128}, {1, 129}} {
		p := newPair(t, 130)
		a := p.afterAll(t, write(x[0], "a"), write(x[1], "b"))
		b := p.afterAll(t, write(x[0], "b"), write(x[1], "a"))
		checkSame(t, a.d, b.d, false)
		checkSame(t, p.after(t, write(x[0], "a")).d, p.after(t, write(x[1], "a")).d, false)
		checkSame(t, a.d, p.afterAll(t, write(x[1], "b"), write(x[0], "a")).d, true)
		checkSame(t, a.d, b.afterAll(t, write(x[0], "a"), write(x[1], "b")).d, true)
	}
}

// P14.6: disks with other numbers of sectors are not the same, also if all sectors that both have are.
func TestSameOfOtherSizes(t *testing.T) {
	numbers := append([]int{2, 3, 62, 66, 127, 129, 191, 192, 193, 10880, 10881, 10921}, sizes...)
	for _, n := range numbers {
		for _, m := range numbers {
			a, b := newPair(t, n), newPair(t, m)
			checkSame(t, a.d, b.d, n == m)
			checkSame(t, a.after(t, write(0, "a")).d, b.after(t, write(0, "a")).d, n == m)
		}
	}
}

// P14.7: a change of any sector leaves all others as they are.
func TestEachSector(t *testing.T) {
	for _, n := range []int{1, 2, 63, 64, 65, 128, 130} {
		p := newPair(t, n)
		for sector := range n {
			p = p.after(t, write(sector, string([]byte{byte(sector), byte(sector >> 8)})))
		}
		p.check(t)
		for sector := range n {
			for _, a := range []act{write(sector, "new"), erase(sector), replay(sector, 0), replay(sector, 1)} {
				p.after(t, a).check(t)
			}
		}
		p.check(t)
	}
}

// P14.7: the same for the greatest disk, each of whose sectors has a content of its own.
func TestEachSectorOfTheGreatest(t *testing.T) {
	n := disks.MaxSectors
	p := newPair(t, n)
	for sector := range n {
		var e api.Errno
		text := string([]byte{byte(sector), byte(sector >> 8)})
		if p.d, e = p.d.Write(sector, []byte(text)); e != api.OK {
			t.Fatalf("Write(%d): error %d", sector, e)
		}
		p.m.sectors[sector] = []content{{}, holds(text)}
	}
	p.check(t)
	for _, sector := range edges(n) {
		for _, a := range []act{write(sector, "new"), erase(sector), replay(sector, 1)} {
			p.after(t, a).check(t)
		}
	}
	p.check(t)
}

// P14.7: disks that were made from the same one in different ways are independent, and that one stays as it is.
func TestBranches(t *testing.T) {
	for _, n := range []int{1, 63, 64, 65, 128} {
		for _, sector := range edges(n) {
			var l []pair
			for _, p := range pasts(t, n, sector) {
				other := n - 1 - sector
				l = append(l, p)
				for _, a := range []act{write(sector, "one"), write(sector, "two"), write(sector, ""), erase(sector), replay(sector, 0), replay(sector, 1), write(other, "one"), write(other, "two"), erase(other), replay(other, 0)} {
					branch := p.after(t, a)
					l = append(l, branch, branch.after(t, a), branch.after(t, write(sector, "three")), branch.after(t, erase(other)))
				}
			}
			for _, p := range l {
				p.check(t)
			}
		}
	}
}

// allActs returns acts on two sectors of a disk, among them some that are refused.
func allActs(n, sector, other int) []act {
	return []act{write(sector, "a"), write(sector, ""), write(sector, strings.Repeat("a", 257)), erase(sector), replay(sector, 0), replay(sector, 1), replay(sector, 2), replay(sector, 3), replay(sector, -1), write(other, "a"), erase(other), write(n, "a")}
}

// P14.2 to P14.7: all short sequences of acts, each of whose disks is checked before what follows and after it.
func TestAllShortSequences(t *testing.T) {
	for _, x := range [][3]int{{2, 0, 1}, {65, 64, 63}} {
		acts := allActs(x[0], x[1], x[2])
		check := func(p pair) {
			p.checkWhole(t)
			p.checkSector(t, x[1])
			p.checkSector(t, x[2])
		}
		var goOn func(p pair, left int)
		goOn = func(p pair, left int) {
			check(p)
			if left == 0 {
				return
			}
			for _, a := range acts {
				goOn(p.after(t, a), left-1)
			}
			check(p)
		}
		goOn(newPair(t, x[0]), 4)
	}
}

// drawAct returns an act on a disk, now and then one that is refused.
func drawAct(draw func(int) int, n int) act {
	sector := draw(n)
	switch draw(4) {
	case 0:
		sector = draw(3)
	case 1:
		sector = draw(n+4) - 2
	}
	switch draw(5) {
	case 0:
		return erase(sector)
	case 1, 2:
		return replay(sector, draw(8)-1)
	}
	text := make([]byte, draw(6))
	if draw(8) == 0 {
		text = make([]byte, 250+draw(10))
	}
	for i := range text {
		text[i] = byte(draw(256))
	}
	return write(sector, string(text))
}

// P14.2 to P14.7: trees of drawn acts. Each act goes on from any disk that was made before, and all of them are checked in the end.
func TestDrawnActs(t *testing.T) {
	for seed, n := range []int{1, 2, 3, 63, 64, 65, 66, 128, 129, 200} {
		draw := drawer(uint64(seed))
		l := []pair{newPair(t, n)}
		for range 600 {
			from := l[draw(len(l))]
			if draw(3) > 0 {
				from = l[len(l)-1]
			}
			l = append(l, from.after(t, drawAct(draw, n)))
		}
		for i, p := range l {
			p.check(t)
			checkSame(t, p.d, l[i/2].d, wantSame(p.m, l[i/2].m))
		}
	}
}

// P14.7: Versions is one more after a change, and Version returns for the numbers before what it returned before.
func TestVersionsGrow(t *testing.T) {
	draw := drawer(14)
	d := newPair(t, 66).d
	for range 3000 {
		a := drawAct(draw, 66)
		if a.sector < 0 || a.sector >= 66 {
			continue
		}
		before, e := d.Versions(a.sector)
		next, bad := a.onDisk(d)
		if e != api.OK || bad != api.OK {
			continue
		}
		if after, e := next.Versions(a.sector); after != before+1 || e != api.OK || next.Changes() != d.Changes()+1 {
			t.Fatalf("%+v: Versions %d, %d after %d, Changes %d after %d", a, after, e, before, next.Changes(), d.Changes())
		}
		for k := range before + 1 {
			b, e := d.Version(a.sector, k)
			c, f := next.Version(a.sector, k)
			if !bytes.Equal(b, c) || e != f {
				t.Fatalf("%+v: Version(%d, %d) = %x, %d, and before %x, %d", a, a.sector, k, c, f, b, e)
			}
		}
		d = next
	}
	if d.Changes() < 1000 {
		t.Errorf("only %d changes", d.Changes())
	}
}

// P14.7, R4: the bytes that were passed to Write are not kept, and not changed.
func TestPassedBytes(t *testing.T) {
	passed := []byte("passed")
	p := newPair(t, 65)
	for _, sector := range []int{0, 63, 64} {
		d, e := p.d.Write(sector, passed)
		if e != api.OK || string(passed) != "passed" {
			t.Fatalf("Write(%d): error %d, and the bytes passed are %q", sector, e, passed)
		}
		p = pair{d, p.m.with(sector, holds("passed"))}
		copy(passed, "XXXXXX")
		p.check(t)
		copy(passed, "passed")
	}
	for i := range passed {
		passed[i]++
	}
	p.check(t)
	p.after(t, replay(63, 0)).check(t)
}

// spoil changes all bytes, also those in the capacity. Doing it again does not undo it.
func spoil(b []byte) {
	b = b[:cap(b)]
	for i := range b {
		b[i] = '#'
	}
}

// P14.7, R4: a change of what Read, Version and Present returned changes nothing, and there is no spare capacity behind it.
func TestReturnedMemory(t *testing.T) {
	p := newPair(t, 130)
	for size := range 130 {
		p = p.afterAll(t, write(size, "first"), erase(size), write(size, strings.Repeat("a", size)), replay(size, 0))
	}
	older := p
	p = p.afterAll(t, write(3, "new"), erase(5))
	for sector := range 130 {
		l := [][]byte{}
		for range 2 {
			b, _ := p.d.Read(sector)
			l = append(l, b)
			for k := range 6 {
				b, _ := p.d.Version(sector, k)
				l = append(l, b)
			}
		}
		for _, b := range l {
			if cap(b) != len(b) {
				t.Fatalf("the sector %d: %d bytes with the capacity %d", sector, len(b), cap(b))
			}
			spoil(b)
		}
	}
	p.check(t)
	older.check(t)
	for _, n := range []int{0, 1, 2, 3, 5, 9, 17, 33, 65, 100, 130} {
		x := newPair(t, 130)
		for sector := range n {
			x = x.after(t, write(sector, "x"))
		}
		l := x.d.Present()
		if len(l) != n || cap(l) != n {
			t.Fatalf("Present of %d sectors: %d of them, with the capacity %d", n, len(l), cap(l))
		}
		for i := range l {
			l[i] = -1
		}
		x.check(t)
	}
}

// P14.7, R5: methods on a copy of a disk are those on the disk, and calls at the same time do not disturb each other.
func TestCallsAtOnce(t *testing.T) {
	p := newPair(t, 130)
	for sector := range 130 {
		p = p.afterAll(t, write(sector, "a"), write(sector, "b"))
	}
	results := make([]pair, 16)
	var wait sync.WaitGroup
	for i := range results {
		wait.Go(func() {
			draw, x := drawer(uint64(i%4)), p
			for range 300 {
				a := drawAct(draw, 130)
				m, want := a.onModel(x.m)
				d, e := a.onDisk(x.d)
				if e != want {
					t.Errorf("%+v: error %d, want %d", a, e, want)
				}
				if e == api.OK && want == api.OK {
					x = pair{d, m}
				}
			}
			results[i] = x
		})
	}
	wait.Wait()
	p.check(t)
	for i, x := range results {
		x.check(t)
		checkSame(t, x.d, results[i%4].d, true)
	}
}
