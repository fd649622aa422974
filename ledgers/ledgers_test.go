package ledgers_test

import (
	"fmt"
	"math"
	"math/rand/v2"
	"reflect"
	"regexp"
	"slices"
	"strconv"
	"strings"
	"sync"
	"testing"

	"caisson/api"
	"caisson/ledgers"
	"caisson/streams"
)

const (
	maxCounter = math.MaxUint32
	maxLines   = 14364
	lineSize   = 73
)

var (
	nonceN = api.Nonce{Counter: 1}
	nonceM = api.Nonce{Counter: 2}
)

// use returns a use of the key of zeros.
func use(n api.Nonce, first, last uint32) ledgers.Use { return keyed([16]byte{}, n, first, last) }

func keyed(key [16]byte, n api.Nonce, first, last uint32) ledgers.Use {
	return ledgers.Use{Key: key, Range: streams.Range{Nonce: n, First: first, Last: last}}
}

func of(uses ...ledgers.Use) ledgers.Ledger { return ledgers.Ledger{Uses: uses} }

// many returns a ledger of n uses that do not clash, each of a nonce of its own.
func many(n int) ledgers.Ledger {
	uses := make([]ledgers.Use, n)
	for i := range uses {
		uses[i] = use(api.Nonce{Shard: uint32(i % 8), Counter: uint64(i / 8)}, 0, 1)
	}
	return ledgers.Ledger{Uses: uses}
}

// with returns a copy of a ledger in which the use with an index is another one.
func with(l ledgers.Ledger, index int, u ledgers.Use) ledgers.Ledger {
	uses := slices.Clone(l.Uses)
	uses[index] = u
	return ledgers.Ledger{Uses: uses}
}

// invalid returns uses whose ranges are not valid.
func invalid() []ledgers.Use {
	return []ledgers.Use{
		use(nonceN, 1, 0),
		use(nonceN, 2, 1),
		use(nonceM, maxCounter, maxCounter-1),
		use(api.Nonce{}, maxCounter, 0),
		use(nonceN, 1<<31, 1<<31-1),
		use(nonceN, 256, 255),
		use(nonceN, 1<<16, 0xff),
		keyed([16]byte{1}, api.Nonce{Shard: math.MaxUint32, Counter: math.MaxUint64}, 1, 0),
	}
}

// valid returns uses with keys, nonces and counters of all sizes.
func valid() []ledgers.Use {
	var counted, full [16]byte
	for i := range counted {
		counted[i], full[i] = byte(i), 0xff
	}
	ranges := [][2]uint32{{0, 0}, {0, 1}, {1, 1}, {1, 2}, {9, 10}, {255, 256}, {0, maxCounter}, {maxCounter, maxCounter}, {maxCounter - 1, maxCounter}, {0x01020304, 0x05060708}, {1<<31 - 1, 1 << 31}, {0x0a0b0c0d, 0xfffefdfc}}
	var l []ledgers.Use
	for _, key := range [][16]byte{{}, {1}, {15: 1}, {0: 0x80, 15: 0xfe}, counted, full} {
		for _, n := range []api.Nonce{{}, nonceN, nonceM, {Shard: 1}, {Shard: 7, Counter: 300}, {Shard: 0x01020304, Counter: 0x05060708090a0b0c}, {Shard: math.MaxUint32, Counter: math.MaxUint64}, {Counter: 1 << 63}, {Shard: 1 << 31}} {
			for _, r := range ranges {
				l = append(l, keyed(key, n, r[0], r[1]))
			}
		}
	}
	return l
}

// wantCheck returns the error of a ledger by the definition.
func wantCheck(l ledgers.Ledger) api.Errno {
	if len(l.Uses) > 65536 {
		return api.ErrLimit
	}
	if slices.ContainsFunc(l.Uses, func(u ledgers.Use) bool { return u.Range.First > u.Range.Last }) {
		return api.ErrArg
	}
	return api.OK
}

func sameStream(a, b ledgers.Use) bool { return a.Key == b.Key && a.Range.Nonce == b.Range.Nonce }

// wantClash tells whether two valid uses clash: each of the counters of one of them is before the other one, or behind it, or there is one in common.
func wantClash(a, b ledgers.Use) bool {
	apart := a.Range.Last < b.Range.First || b.Range.Last < a.Range.First
	return sameStream(a, b) && !apart
}

// wantRepeats returns the first clash by the definition.
func wantRepeats(l ledgers.Ledger) (int, int, bool) {
	if wantCheck(l) != api.OK {
		return 0, 0, false
	}
	for j, u := range l.Uses {
		for i, before := range l.Uses[:j] {
			if wantClash(before, u) {
				return i, j, true
			}
		}
	}
	return 0, 0, false
}

// line returns the line of a use by the definition, whether it is valid or not.
func line(u ledgers.Use) string {
	r := u.Range
	return fmt.Sprintf("%x%08x%016x%08x%08x\n", u.Key[:], r.Nonce.Shard, r.Nonce.Counter, r.First, r.Last)
}

func text(uses []ledgers.Use) string {
	var b strings.Builder
	for _, u := range uses {
		b.WriteString(line(u))
	}
	return b.String()
}

var wellFormed = regexp.MustCompile(`\A([0-9a-f]{32})([0-9a-f]{8})([0-9a-f]{16})([0-9a-f]{8})([0-9a-f]{8})\n\z`)

// wantParse returns the uses, the line and the error of a text by the definition.
func wantParse(s string) ([]ledgers.Use, int, api.Errno) {
	if len(s) > 1<<20 {
		return nil, 0, api.ErrLimit
	}
	var uses []ledgers.Use
	for n, l := range strings.SplitAfter(s, "\n") {
		if l == "" { // behind the last line feed
			continue
		}
		m := wellFormed.FindStringSubmatch(l)
		if m == nil {
			return nil, n + 1, api.ErrForm
		}
		var u ledgers.Use
		for i := range u.Key {
			u.Key[i] = byte(unhex(m[1][2*i : 2*i+2]))
		}
		u.Range.Nonce = api.Nonce{Shard: uint32(unhex(m[2])), Counter: unhex(m[3])}
		u.Range.First, u.Range.Last = uint32(unhex(m[4])), uint32(unhex(m[5]))
		if u.Range.First > u.Range.Last {
			return nil, n + 1, api.ErrArg
		}
		uses = append(uses, u)
	}
	return uses, 0, api.OK
}

func unhex(digits string) uint64 {
	v, err := strconv.ParseUint(digits, 16, 64)
	if err != nil {
		panic(err)
	}
	return v
}

// checkList fails if a ledger has other uses, or spare capacity.
func checkList(t *testing.T, name string, l ledgers.Ledger, want []ledgers.Use) {
	t.Helper()
	if !slices.Equal(l.Uses, want) {
		t.Fatalf("%s: %d uses %.300v, want %d uses %.300v", name, len(l.Uses), l.Uses, len(want), want)
	}
	if cap(l.Uses) != len(l.Uses) {
		t.Fatalf("%s: %d uses with a capacity of %d", name, len(l.Uses), cap(l.Uses))
	}
}

// checkClash fails if Repeats does not return what is wanted.
func checkClash(t *testing.T, name string, l ledgers.Ledger, wantI, wantJ int, want bool) {
	t.Helper()
	if i, j, found := ledgers.Repeats(l); i != wantI || j != wantJ || found != want {
		t.Fatalf("%s: Repeats of %d uses %.300v = %d, %d, %t, want %d, %d, %t", name, len(l.Uses), l.Uses, i, j, found, wantI, wantJ, want)
	}
}

// drawn returns a ledger of n valid uses of few keys, nonces and counters.
func drawn(r *rand.Rand, n, keys, nonces, counters int) ledgers.Ledger {
	var l ledgers.Ledger
	for range n {
		first := r.IntN(counters)
		last := first + r.IntN(1+min(3, counters-1-first))
		key := [16]byte{9: byte(r.IntN(keys))}
		n := api.Nonce{Shard: uint32(r.IntN(nonces)), Counter: uint64(r.IntN(nonces))}
		l.Uses = append(l.Uses, keyed(key, n, uint32(first), uint32(last)))
	}
	return l
}

// Ledgers with each error, and without one, and with both reasons for an error.
func faulty() []ledgers.Ledger {
	bad := use(nonceN, 1, 0)
	return []ledgers.Ledger{
		{},
		{Uses: []ledgers.Use{}},
		of(use(nonceN, 0, 1)),
		of(bad),
		of(bad, use(nonceN, 0, 1)),
		of(use(nonceN, 0, 1), bad),
		of(use(nonceN, 0, 1), use(nonceN, 1, 2)), // a clash
		many(65535),
		with(many(65535), 65534, bad),
		many(65536),
		with(many(65536), 0, bad),
		with(many(65536), 32768, bad),
		with(many(65536), 65535, bad),
		many(65537),
		with(many(65537), 0, bad),
		with(many(65537), 65536, bad),
		many(100000),
	}
}

// MaxUses is a constant of the package.
func TestMaxUses(t *testing.T) {
	if ledgers.MaxUses != 65536 {
		t.Errorf("MaxUses = %d", ledgers.MaxUses)
	}
}

// P11.1: ledgers without uses, with one, with MaxUses and with one more, with and without a bad range; ErrLimit before ErrArg.
func TestCheckOfSizes(t *testing.T) {
	for i, l := range faulty() {
		if e := ledgers.Check(l); e != wantCheck(l) {
			t.Errorf("Check(%d, %d uses): error %d, want %d", i, len(l.Uses), e, wantCheck(l))
		}
	}
	for _, n := range []int{0, 1, 2, 65535, 65536} {
		if e := ledgers.Check(many(n)); e != api.OK {
			t.Errorf("Check(%d uses): error %d", n, e)
		}
	}
	for _, n := range []int{65537, 65538, 131072, 200000} {
		if e := ledgers.Check(many(n)); e != api.ErrLimit {
			t.Errorf("Check(%d uses): error %d, want ErrLimit", n, e)
		}
	}
}

// P11.1: every kind of bad range at every place, and every kind of good one.
func TestCheckOfRanges(t *testing.T) {
	all := ledgers.Ledger{Uses: valid()}
	if e := ledgers.Check(all); e != api.OK {
		t.Fatalf("Check of valid uses: error %d", e)
	}
	for i := range all.Uses {
		if e := ledgers.Check(with(all, i, invalid()[i%len(invalid())])); e != api.ErrArg {
			t.Fatalf("Check with a bad range at %d: error %d, want ErrArg", i, e)
		}
	}
	for _, bad := range invalid() {
		if e := ledgers.Check(of(bad)); e != api.ErrArg {
			t.Errorf("Check(%v): error %d, want ErrArg", bad, e)
		}
	}
}

// P11.1: only First and Last decide.
func TestCheckOfEachPair(t *testing.T) {
	counters := []uint32{0, 1, 2, 3, 255, 256, 1<<16 - 1, 1 << 16, 1<<31 - 1, 1 << 31, maxCounter - 1, maxCounter}
	for _, first := range counters {
		for _, last := range counters {
			want := api.OK
			if first > last {
				want = api.ErrArg
			}
			if e := ledgers.Check(of(use(nonceM, 0, 0), use(nonceN, first, last))); e != want {
				t.Errorf("Check(%d to %d): error %d, want %d", first, last, e, want)
			}
		}
	}
}

// P11.2: the new use stands behind all others, also if it clashes with one of them.
func TestAdd(t *testing.T) {
	var l ledgers.Ledger
	var want []ledgers.Use
	for range 2 {
		for _, u := range valid()[:100] {
			next, e := ledgers.Add(l, u)
			want = append(want, u)
			if e != api.OK {
				t.Fatalf("Add(%d uses, %v): error %d", len(l.Uses), u, e)
			}
			checkList(t, "Add", next, want)
			checkList(t, "the ledger before Add", l, want[:len(want)-1])
			l = next
		}
	}
}

// P11.2: the error of Check for l, then ErrArg for u, then ErrLimit.
func TestAddErrors(t *testing.T) {
	for i, l := range faulty() {
		for _, u := range append(invalid(), use(nonceN, 0, 1), use(nonceM, 5, 5)) {
			want := wantCheck(l)
			if want == api.OK && u.Range.First > u.Range.Last {
				want = api.ErrArg
			}
			if want == api.OK && len(l.Uses) >= 65536 {
				want = api.ErrLimit
			}
			got, e := ledgers.Add(l, u)
			if e != want {
				t.Errorf("Add(%d, %d uses, %v): error %d, want %d", i, len(l.Uses), u, e, want)
			}
			if e == api.OK {
				checkList(t, "Add", got, append(slices.Clone(l.Uses), u))
			} else if len(got.Uses) > 0 {
				t.Errorf("Add(%d, %d uses, %v): %d uses with the error %d", i, len(l.Uses), u, len(got.Uses), e)
			}
		}
	}
}

// P11.2: the uses of l, and then those of m.
func TestMerge(t *testing.T) {
	all := valid()
	for _, sizes := range [][2]int{{0, 0}, {0, 1}, {1, 0}, {1, 1}, {2, 3}, {3, 2}, {0, 50}, {50, 0}, {20, 30}, {30, 20}, {100, 7}} {
		l, m := of(all[:sizes[0]]...), of(all[sizes[0]:sizes[0]+sizes[1]]...)
		got, e := ledgers.Merge(l, m)
		if e != api.OK {
			t.Fatalf("Merge(%v): error %d", sizes, e)
		}
		checkList(t, "Merge", got, all[:sizes[0]+sizes[1]])
		back, e := ledgers.Merge(m, l)
		if e != api.OK {
			t.Fatalf("Merge(%v) the other way: error %d", sizes, e)
		}
		checkList(t, "Merge", back, slices.Concat(m.Uses, l.Uses))
	}
}

// P11.2: a ledger merged with itself is not refused, although each use clashes.
func TestMergeOfClashes(t *testing.T) {
	l := of(use(nonceN, 0, 1), use(nonceN, 1, 5), use(nonceM, 0, maxCounter))
	got, e := ledgers.Merge(l, l)
	if e != api.OK {
		t.Fatalf("Merge: error %d", e)
	}
	checkList(t, "Merge", got, slices.Concat(l.Uses, l.Uses))
}

// P11.2: the error of Check for l, then that for m, then ErrLimit.
func TestMergeErrors(t *testing.T) {
	list := append(faulty(), many(32768), many(32769))
	for i, l := range list {
		for k, m := range list {
			want := wantCheck(l)
			if want == api.OK {
				want = wantCheck(m)
			}
			if want == api.OK && len(l.Uses)+len(m.Uses) > 65536 {
				want = api.ErrLimit
			}
			got, e := ledgers.Merge(l, m)
			if e != want {
				t.Errorf("Merge(%d, %d): error %d, want %d", i, k, e, want)
			}
			if e == api.OK {
				checkList(t, "Merge", got, slices.Concat(l.Uses, m.Uses))
			} else if len(got.Uses) > 0 {
				t.Errorf("Merge(%d, %d): %d uses with the error %d", i, k, len(got.Uses), e)
			}
		}
	}
}

// P11.2, P11.3, P11.4: the chapter's examples.
func TestExamples(t *testing.T) {
	l := of(use(nonceN, 0, 1), use(nonceM, 0, 1), use(nonceN, 2, 3))
	checkClash(t, "example 1", l, 0, 0, false)
	if n := ledgers.Count(l, [16]byte{}); n != 3 {
		t.Errorf("Count = %d, want 3", n)
	}
	if n := ledgers.Count(l, [16]byte{1}); n != 0 {
		t.Errorf("Count of another key = %d, want 0", n)
	}
	l, e := ledgers.Merge(l, of(use(nonceN, 1, 2), use(nonceN, 0, 0)))
	if e != api.OK {
		t.Fatalf("Merge: error %d", e)
	}
	checkClash(t, "example 2", l, 0, 3, true)
}

// P11.3: two ranges that touch, overlap in one counter, contain each other, are equal, and are of another key or nonce.
func TestRepeatsOfTwo(t *testing.T) {
	n := api.Nonce{Shard: 3, Counter: 9}
	for _, x := range []struct {
		a, b ledgers.Use
		want bool
	}{
		{use(n, 0, 1), use(n, 2, 3), false},
		{use(n, 0, 0), use(n, 1, 1), false},
		{use(n, 0, 1), use(n, 1, 2), true},
		{use(n, 0, 0), use(n, 0, 0), true},
		{use(n, 5, 9), use(n, 5, 9), true},
		{use(n, 5, 9), use(n, 9, 9), true},
		{use(n, 5, 9), use(n, 5, 5), true},
		{use(n, 5, 9), use(n, 4, 4), false},
		{use(n, 5, 9), use(n, 10, 10), false},
		{use(n, 5, 9), use(n, 6, 8), true},
		{use(n, 5, 9), use(n, 0, 100), true},
		{use(n, 5, 9), use(n, 0, 5), true},
		{use(n, 5, 9), use(n, 9, 100), true},
		{use(n, 0, maxCounter), use(n, 0, maxCounter), true},
		{use(n, 0, maxCounter), use(n, 0, 0), true},
		{use(n, 0, maxCounter), use(n, maxCounter, maxCounter), true},
		{use(n, 0, maxCounter-1), use(n, maxCounter, maxCounter), false},
		{use(n, maxCounter, maxCounter), use(n, maxCounter, maxCounter), true},
		{use(n, 1, maxCounter), use(n, 0, 0), false},
		{use(n, 0, 1<<31-1), use(n, 1<<31, maxCounter), false},
		{use(n, 0, 1<<31), use(n, 1<<31, maxCounter), true},
		{use(n, 0, 1), use(api.Nonce{Shard: 3, Counter: 8}, 0, 1), false},
		{use(n, 0, 1), use(api.Nonce{Shard: 2, Counter: 9}, 0, 1), false},
		{use(n, 0, 1), use(api.Nonce{Shard: 9, Counter: 3}, 0, 1), false},
		{use(n, 0, maxCounter), use(nonceN, 0, maxCounter), false},
		{use(n, 0, 1), keyed([16]byte{1}, n, 0, 1), false},
		{use(n, 0, 1), keyed([16]byte{15: 1}, n, 0, 1), false},
		{keyed([16]byte{7: 9}, n, 0, 1), keyed([16]byte{7: 9}, n, 1, 2), true},
		{keyed([16]byte{7: 9}, n, 0, 1), keyed([16]byte{8: 9}, n, 1, 2), false},
	} {
		j := 0
		if x.want {
			j = 1
		}
		checkClash(t, "two", of(x.a, x.b), 0, j, x.want)
		checkClash(t, "two, turned round", of(x.b, x.a), 0, j, x.want)
	}
}

// P11.3: every bit of a key, a nonce and its counter tells uses apart.
func TestRepeatsOfEachBit(t *testing.T) {
	u := keyed([16]byte{1, 2, 3}, api.Nonce{Shard: 5, Counter: 6}, 3, 8)
	for bit := range 128 {
		v := u
		v.Key[bit/8] ^= 1 << (bit % 8)
		checkClash(t, "another key", of(u, v), 0, 0, false)
		checkClash(t, "another key between", of(u, v, u), 0, 2, true)
	}
	for bit := range 32 {
		v := u
		v.Range.Nonce.Shard ^= 1 << bit
		checkClash(t, "another shard", of(u, v), 0, 0, false)
		checkClash(t, "another shard between", of(u, v, u), 0, 2, true)
	}
	for bit := range 64 {
		v := u
		v.Range.Nonce.Counter ^= 1 << bit
		checkClash(t, "another counter", of(u, v), 0, 0, false)
		checkClash(t, "another counter between", of(v, u, v), 0, 2, true)
	}
}

// P11.3: several clashes, of which the first one is asked for: the least j, and of those the least i.
func TestRepeatsFirst(t *testing.T) {
	n, m := nonceN, nonceM
	for _, x := range []struct {
		uses []ledgers.Use
		i, j int
	}{
		{[]ledgers.Use{use(n, 0, 1), use(n, 0, 1), use(n, 0, 1)}, 0, 1},
		{[]ledgers.Use{use(n, 0, 1), use(n, 4, 5), use(n, 1, 4)}, 0, 2},
		{[]ledgers.Use{use(n, 4, 5), use(n, 0, 1), use(n, 1, 4)}, 0, 2},
		{[]ledgers.Use{use(n, 8, 9), use(n, 4, 5), use(n, 0, 1), use(n, 1, 4)}, 1, 3},
		{[]ledgers.Use{use(n, 8, 9), use(n, 0, 1), use(n, 4, 5), use(n, 1, 4)}, 1, 3},
		{[]ledgers.Use{use(m, 0, 1), use(n, 0, 1), use(n, 1, 2), use(m, 1, 2)}, 1, 2},
		{[]ledgers.Use{use(m, 0, 1), use(n, 0, 1), use(m, 1, 2), use(n, 1, 2)}, 0, 2},
		{[]ledgers.Use{use(n, 0, 100), use(m, 0, 1), use(m, 1, 2), use(n, 50, 50)}, 1, 2},
		{[]ledgers.Use{use(n, 10, 10), use(n, 0, 9), use(n, 11, 20), use(n, 0, 20), use(n, 0, 0)}, 0, 3},
		{[]ledgers.Use{use(n, 0, 0), use(n, 2, 2), use(n, 4, 4), use(n, 6, 6), use(n, 3, 6), use(n, 0, 0)}, 2, 4},
		// The uses that clash last begin first.
		{[]ledgers.Use{use(n, 9, 9), use(n, 8, 9), use(n, 1, 2), use(n, 0, 1)}, 0, 1},
		{[]ledgers.Use{use(n, 9, 9), use(n, 1, 2), use(n, 0, 1), use(n, 8, 9)}, 1, 2},
		// A use that is not next to another one clashes with it.
		{[]ledgers.Use{use(n, 0, 100), use(m, 1, 1), use(n, 101, 101), use(n, 7, 7)}, 0, 3},
	} {
		checkClash(t, "first", ledgers.Ledger{Uses: x.uses}, x.i, x.j, true)
		if i, j, found := wantRepeats(ledgers.Ledger{Uses: x.uses}); i != x.i || j != x.j || !found {
			t.Fatalf("the definition has %d, %d, %t for %v", i, j, found, x.uses)
		}
	}
}

// P11.3: no use at all, and one.
func TestRepeatsOfFew(t *testing.T) {
	checkClash(t, "nil", ledgers.Ledger{}, 0, 0, false)
	checkClash(t, "empty", ledgers.Ledger{Uses: []ledgers.Use{}}, 0, 0, false)
	for _, u := range valid() {
		checkClash(t, "one use", of(u), 0, 0, false)
		checkClash(t, "one use twice", of(u, u), 0, 1, true)
	}
}

// P11.3: all ledgers of up to four uses of three streams with few counters.
func TestRepeatsOfAllSmall(t *testing.T) {
	var uses []ledgers.Use
	for _, r := range [][2]uint32{{0, 0}, {1, 1}, {2, 2}, {0, 1}, {1, 2}, {0, 2}, {1, 0}} {
		uses = append(uses, use(nonceN, r[0], r[1]))
	}
	uses = append(uses, use(nonceM, 0, 1), use(nonceM, 1, 2), keyed([16]byte{1}, nonceN, 0, 1), keyed([16]byte{1}, nonceN, 2, 2))
	var extend func(l []ledgers.Use)
	extend = func(l []ledgers.Use) {
		i, j, found := wantRepeats(ledgers.Ledger{Uses: l})
		checkClash(t, "small", ledgers.Ledger{Uses: l}, i, j, found)
		if len(l) == 4 {
			return
		}
		for _, u := range uses {
			extend(append(slices.Clip(l), u))
		}
	}
	extend(nil)
}

// P11.3: ledgers whose uses are drawn, with many clashes and with few.
func TestRepeatsOfDrawn(t *testing.T) {
	r := rand.New(rand.NewPCG(11, 3))
	counts := map[bool]int{}
	for range 20000 {
		l := drawn(r, r.IntN(40), 1+r.IntN(3), 1+r.IntN(3), 1+r.IntN(400))
		i, j, found := wantRepeats(l)
		counts[found]++
		checkClash(t, "drawn", l, i, j, found)
	}
	if counts[true] < 1000 || counts[false] < 1000 {
		t.Errorf("the ledgers that were drawn are not varied enough: %v", counts)
	}
}

// P11.3: nothing is found in a ledger that is not valid.
func TestRepeatsOfInvalid(t *testing.T) {
	u := use(nonceN, 0, 1)
	for _, bad := range invalid() {
		for _, l := range []ledgers.Ledger{of(bad), of(bad, bad), of(bad, u, u), of(u, bad, u), of(u, u, bad), of(u, u, u, bad, u)} {
			checkClash(t, "a bad range", l, 0, 0, false)
		}
	}
	l := with(with(many(65537), 0, u), 1, u)
	checkClash(t, "too many uses", l, 0, 0, false)
	checkClash(t, "MaxUses uses", ledgers.Ledger{Uses: l.Uses[:65536]}, 0, 1, true)
	checkClash(t, "MaxUses uses, the last one bad", with(ledgers.Ledger{Uses: l.Uses[:65536]}, 65535, use(nonceM, 1, 0)), 0, 0, false)
}

// P11.3: MaxUses uses of one stream that do not clash, in several orders, and one use among them that does.
func TestRepeatsOfMany(t *testing.T) {
	const n = 65536
	r := rand.New(rand.NewPCG(11, 4))
	ascending, descending := make([]int, n), make([]int, n)
	for i := range n {
		ascending[i], descending[i] = i, n-1-i
	}
	for name, order := range map[string][]int{"ascending": ascending, "descending": descending, "mixed": r.Perm(n)} {
		uses := make([]ledgers.Use, n)
		for i, place := range order {
			uses[i] = use(nonceN, uint32(place)<<16, uint32(place)<<16|0xffff)
		}
		l := ledgers.Ledger{Uses: uses}
		checkClash(t, name, l, 0, 0, false)
		for _, x := range [][2]int{{0, 1}, {0, n - 1}, {n - 2, n - 1}, {n / 2, n - 1}, {100, 40000}, {40000, 40001}} {
			// Both uses have the same counters, and those of the later one are used by nobody.
			checkClash(t, name, with(l, x[1], uses[x[0]]), x[0], x[1], true)
		}
		checkClash(t, name, with(l, n/2, use(nonceN, 0, maxCounter)), 0, n/2, true)
	}
}

// P11.3: MaxUses uses of a nonce each, two of which clash.
func TestRepeatsOfManyNonces(t *testing.T) {
	l := many(65536)
	checkClash(t, "nonces", l, 0, 0, false)
	for _, x := range [][2]int{{0, 1}, {0, 65535}, {65534, 65535}, {9, 50000}} {
		u := l.Uses[x[0]]
		u.Range.First, u.Range.Last = 1, 7
		checkClash(t, "nonces", with(l, x[1], u), x[0], x[1], true)
		u.Range.First = 2
		checkClash(t, "nonces", with(l, x[1], u), 0, 0, false)
	}
}

// P11.4: ledgers that may be any.
func TestCount(t *testing.T) {
	a, b, c := [16]byte{1}, [16]byte{15: 1}, [16]byte{}
	l := of(keyed(a, nonceN, 0, 1), keyed(b, nonceN, 0, 1), keyed(a, nonceN, 0, 1), keyed(a, nonceM, 5, 2), keyed(b, nonceN, 9, 1), keyed(a, nonceM, maxCounter, maxCounter))
	for _, x := range []struct {
		key  [16]byte
		want int
	}{{a, 4}, {b, 2}, {c, 0}, {[16]byte{1, 1}, 0}} {
		if n := ledgers.Count(l, x.key); n != x.want {
			t.Errorf("Count(%x) = %d, want %d", x.key, n, x.want)
		}
	}
	for bit := range 128 {
		key := a
		key[bit/8] ^= 1 << (bit % 8)
		if n := ledgers.Count(of(keyed(a, nonceN, 0, 1)), key); n != 0 {
			t.Errorf("Count(%x) = %d, want 0", key, n)
		}
	}
	if n := ledgers.Count(ledgers.Ledger{}, c); n != 0 {
		t.Errorf("Count of no uses = %d", n)
	}
	for _, size := range []int{65535, 65536, 65537, 100000} {
		if n := ledgers.Count(with(many(size), size/2, keyed(a, nonceN, 1, 0)), c); n != size-1 {
			t.Errorf("Count of %d uses = %d", size, n)
		}
	}
}

// P11.5: the chapter's example, and other lines.
func TestText(t *testing.T) {
	zeros := strings.Repeat("0", 32)
	counted := [16]byte{0, 1, 2, 3, 4, 5, 6, 7, 8, 9, 10, 11, 12, 13, 14, 15}
	for _, x := range []struct {
		use  ledgers.Use
		want string
	}{
		{use(nonceM, 0, 1), zeros + "000000000000000000000002" + "00000000" + "00000001" + "\n"},
		{ledgers.Use{}, strings.Repeat("0", 72) + "\n"},
		{keyed(counted, api.Nonce{Shard: 1, Counter: 258}, 10, 0xabcdef12), "000102030405060708090a0b0c0d0e0f" + "00000001" + "0000000000000102" + "0000000a" + "abcdef12" + "\n"},
		{use(api.Nonce{Shard: 0x01020304, Counter: 0x05060708090a0b0c}, 0x0d0e0f10, 0x11121314), zeros + "01020304" + "05060708090a0b0c" + "0d0e0f10" + "11121314" + "\n"},
		{use(api.Nonce{Shard: math.MaxUint32, Counter: math.MaxUint64}, maxCounter, maxCounter), zeros + strings.Repeat("f", 40) + "\n"},
	} {
		if got, e := ledgers.Text(of(x.use)); got != x.want || e != api.OK {
			t.Errorf("Text(%v) = %q, %d, want %q", x.use, got, e, x.want)
		}
		l, n, e := ledgers.Parse(x.want)
		if n != 0 || e != api.OK {
			t.Errorf("Parse(%q): %d, %d", x.want, n, e)
		}
		checkList(t, "Parse", l, []ledgers.Use{x.use})
	}
}

// P11.5, P11.6: Parse inverts Text; the uses stand in order, also if they clash.
func TestTextAndBack(t *testing.T) {
	all := valid()
	for _, uses := range [][]ledgers.Use{nil, {}, all[:1], all[:2], {all[3], all[3]}, all, slices.Concat(all, all)} {
		s, e := ledgers.Text(ledgers.Ledger{Uses: uses})
		if s != text(uses) || e != api.OK {
			t.Fatalf("Text of %d uses: error %d, or another text", len(uses), e)
		}
		l, n, e := ledgers.Parse(s)
		if n != 0 || e != api.OK {
			t.Fatalf("Parse of the text of %d uses: line %d, error %d", len(uses), n, e)
		}
		checkList(t, "Parse", l, uses)
	}
	r := rand.New(rand.NewPCG(11, 5))
	for range 3000 {
		l := drawn(r, r.IntN(6), 200, 200, math.MaxUint32)
		s, e := ledgers.Text(l)
		if s != text(l.Uses) || e != api.OK {
			t.Fatalf("Text(%v) = %q, %d", l, s, e)
		}
		back, n, e := ledgers.Parse(s)
		if n != 0 || e != api.OK {
			t.Fatalf("Parse(%q): line %d, error %d", s, n, e)
		}
		checkList(t, "Parse", back, l.Uses)
	}
}

// P11.5, P11.6: the error of Check, then ErrLimit; at most 14364 lines.
func TestTextErrors(t *testing.T) {
	list := append(faulty(), many(maxLines-1), many(maxLines), many(maxLines+1), many(20000),
		with(many(maxLines), maxLines-1, use(nonceN, 1, 0)), with(many(maxLines+1), maxLines, use(nonceN, 1, 0)), with(many(20000), 0, use(nonceN, 1, 0)))
	for _, bad := range invalid() {
		list = append(list, of(bad), of(use(nonceN, 0, 1), bad, use(nonceN, 0, 1)))
	}
	for i, l := range list {
		want := wantCheck(l)
		if want == api.OK && len(l.Uses) > maxLines {
			want = api.ErrLimit
		}
		got, e := ledgers.Text(l)
		if e != want {
			t.Errorf("Text(%d, %d uses): error %d, want %d", i, len(l.Uses), e, want)
		}
		wanted := ""
		if want == api.OK {
			wanted = text(l.Uses)
		}
		if got != wanted {
			t.Errorf("Text(%d, %d uses): another text of %d bytes, with the error %d", i, len(l.Uses), len(got), e)
		}
	}
}

// checkParse fails if Parse does not return what is wanted by the definition, or Text does not return what was parsed.
func checkParse(t *testing.T, s string) {
	t.Helper()
	uses, n, want := wantParse(s)
	l, gotN, e := ledgers.Parse(s)
	if gotN != n || e != want {
		t.Fatalf("Parse(%.400q, %d bytes): line %d, error %d, want %d, %d", s, len(s), gotN, e, n, want)
	}
	checkList(t, "Parse", l, uses)
	if e != api.OK {
		return
	}
	if back, e := ledgers.Text(l); back != s || e != api.OK {
		t.Fatalf("Text(Parse(%.400q)) = %.400q, %d", s, back, e)
	}
}

// P11.5: texts with an error, among them the chapter's examples.
func TestParseErrors(t *testing.T) {
	zeros := strings.Repeat("0", 72)
	good := zeros + "\n"
	backwards := strings.Repeat("0", 56) + "00000001" + "00000000" + "\n"
	for _, x := range []struct {
		text string
		line int
		want api.Errno
	}{
		{"00\n", 1, api.ErrForm},
		{zeros, 1, api.ErrForm},
		{backwards, 1, api.ErrArg},
		{"", 0, api.OK},
		{good, 0, api.OK},
		{good + good, 0, api.OK},
		{"\n", 1, api.ErrForm},
		{"\n" + good, 1, api.ErrForm},
		{good + "\n", 2, api.ErrForm},
		{good + "\n" + good, 2, api.ErrForm},
		{good + good + "\n", 3, api.ErrForm},
		{"\n\n\n", 1, api.ErrForm},
		{"0", 1, api.ErrForm},
		{zeros[1:] + "\n", 1, api.ErrForm},
		{zeros + "0\n", 1, api.ErrForm},
		{zeros + zeros + "\n", 1, api.ErrForm},
		{zeros[2:] + "\n", 1, api.ErrForm},
		{zeros + "00\n", 1, api.ErrForm},
		{good + zeros[1:] + "\n" + good, 2, api.ErrForm},
		{good + zeros + "0\n" + good, 2, api.ErrForm},
		{good + good + zeros[1:] + "\n", 3, api.ErrForm},
		{good + good + zeros + "0\n", 3, api.ErrForm},
		{good + zeros, 2, api.ErrForm},
		{good + good + zeros, 3, api.ErrForm},
		{good + good + zeros[1:], 3, api.ErrForm},
		{good + good + "0", 3, api.ErrForm},
		{zeros + "\r\n", 1, api.ErrForm},
		{zeros[1:] + "\r\n", 1, api.ErrForm},
		{zeros + "\r", 1, api.ErrForm},
		{zeros + zeros + "0", 1, api.ErrForm},
		{zeros + " " + zeros + "\n", 1, api.ErrForm},
		{" " + zeros[1:] + "\n", 1, api.ErrForm},
		{zeros[1:] + " \n", 1, api.ErrForm},
		{"+" + zeros[1:] + "\n", 1, api.ErrForm},
		{"-" + zeros[1:] + "\n", 1, api.ErrForm},
		{"0x" + zeros[2:] + "\n", 1, api.ErrForm},
		{zeros[1:] + "g\n", 1, api.ErrForm},
		{zeros[1:] + "A\n", 1, api.ErrForm},
		{zeros[1:] + "F\n", 1, api.ErrForm},
		{"F" + zeros[1:] + "\n", 1, api.ErrForm},
		{zeros[1:] + "a\n", 0, api.OK},
		{zeros[1:] + "f\n", 0, api.OK},
		{zeros[1:] + "\x00\n", 1, api.ErrForm},
		{zeros[1:] + "\xff\n", 1, api.ErrForm},
		{zeros[2:] + "\u00e9\n", 1, api.ErrForm},
		{strings.Repeat("\u0660", 72) + "\n", 1, api.ErrForm},
		{strings.Repeat("\u0660", 36) + "\n", 1, api.ErrForm},
		{good + backwards, 2, api.ErrArg},
		{good + backwards + good, 2, api.ErrArg},
		{good + good + backwards, 3, api.ErrArg},
		// Two faults in one text.
		{backwards + "00\n", 1, api.ErrArg},
		{"00\n" + backwards, 1, api.ErrForm},
		{good + backwards + good + zeros, 2, api.ErrArg},
		{good + "00\n" + good + backwards, 2, api.ErrForm},
		{backwards + backwards, 1, api.ErrArg},
		{"0\n0\n", 1, api.ErrForm},
		// Two faults in one line.
		{"A" + backwards[1:], 1, api.ErrForm},
		{backwards[:72], 1, api.ErrForm},
		{backwards[:71] + "g\n", 1, api.ErrForm},
		{backwards[:63] + "G" + backwards[64:], 1, api.ErrForm},
		{backwards[:72] + "0\n", 1, api.ErrForm},
		{backwards[1:], 1, api.ErrForm},
	} {
		if uses, n, e := wantParse(x.text); n != x.line || e != x.want {
			t.Fatalf("the definition has %v, %d, %d for %q", uses, n, e, x.text)
		}
		checkParse(t, x.text)
	}
}

// P11.5: each byte of three lines is changed into each other one, is left out, or is followed by another one.
func TestParseOfChangedTexts(t *testing.T) {
	s := text([]ledgers.Use{valid()[100], use(api.Nonce{Shard: 0x1a2b3c4d, Counter: 7}, 5, 5), keyed([16]byte{9, 8, 7}, nonceM, 0x10000000, 0x20000000)})
	checkParse(t, s)
	for i := range s {
		for c := range 256 {
			checkParse(t, s[:i]+string([]byte{byte(c)})+s[i+1:])
		}
		for _, more := range []string{"0", "f", "\n", "\r", " ", "A", "\u00e9", "\n\n"} {
			checkParse(t, s[:i]+more+s[i:])
		}
		checkParse(t, s[:i])
		checkParse(t, s[i:])
		checkParse(t, s[:i]+s[i+1:])
	}
}

// P11.5: two lines of every length from 0 to 150, with and without a line feed behind the last one.
func TestParseOfLengths(t *testing.T) {
	for n := range 151 {
		l := strings.Repeat("7", n)
		for m := range 151 {
			checkParse(t, l+"\n"+strings.Repeat("7", m))
		}
		checkParse(t, l)
		checkParse(t, l+"\n")
		checkParse(t, l+"\n"+l+"\n")
	}
}

// P11.5: only First and Last decide about ErrArg.
func TestParseOfRanges(t *testing.T) {
	for _, u := range append(invalid(), valid()...) {
		checkParse(t, line(u))
		checkParse(t, line(use(nonceN, 0, 1))+line(u)+line(use(nonceN, 0, 1)))
	}
}

// P11.5, P11.6: texts of MaxText bytes and of one more, of 14364 lines and of one more.
func TestParseOfLongTexts(t *testing.T) {
	full := text(many(maxLines).Uses)
	if len(full) != maxLines*lineSize || len(full)+lineSize <= api.MaxText {
		t.Fatalf("%d lines have %d bytes", maxLines, len(full))
	}
	last := full[:len(full)-lineSize]
	backwards := line(use(nonceN, 1, 0))
	rest := strings.Repeat("0", api.MaxText-len(full))
	for _, x := range []struct {
		name string
		text string
		line int
		want api.Errno
	}{
		{"14364 lines", full, 0, api.OK},
		{"14363 lines", last, 0, api.OK},
		{"14363 lines and a bad one", last + backwards, maxLines, api.ErrArg},
		{"14363 lines and a short one", last + "00\n", maxLines, api.ErrForm},
		{"14364 lines, the first one bad", backwards + full[lineSize:], 1, api.ErrArg},
		{"14365 lines", full + full[:lineSize], 0, api.ErrLimit},
		{"14365 lines, the first one bad", backwards + full, 0, api.ErrLimit},
		{"MaxText bytes", full + rest, maxLines + 1, api.ErrForm},
		{"MaxText bytes, the last one a line feed", full + rest[1:] + "\n", maxLines + 1, api.ErrForm},
		{"MaxText bytes and one more", full + rest + "0", 0, api.ErrLimit},
		{"MaxText bytes and a line feed", full + rest + "\n", 0, api.ErrLimit},
		{"MaxText digits", strings.Repeat("0", api.MaxText), 1, api.ErrForm},
		{"MaxText digits and one more", strings.Repeat("0", api.MaxText+1), 0, api.ErrLimit},
		{"MaxText line feeds", strings.Repeat("\n", api.MaxText), 1, api.ErrForm},
		{"MaxText line feeds and one more", strings.Repeat("\n", api.MaxText+1), 0, api.ErrLimit},
		{"far more", strings.Repeat(full, 3), 0, api.ErrLimit},
	} {
		l, n, e := ledgers.Parse(x.text)
		if n != x.line || e != x.want {
			t.Errorf("%s: line %d, error %d, want %d, %d", x.name, n, e, x.line, x.want)
		}
		if e != api.OK && len(l.Uses) > 0 {
			t.Errorf("%s: %d uses with the error %d", x.name, len(l.Uses), e)
		}
		checkParse(t, x.text)
	}
}

// P11.6: a merged ledger has a clash if one of both has one, or a use of one clashes with one of the other.
func TestClashesOfMerged(t *testing.T) {
	r := rand.New(rand.NewPCG(11, 6))
	counts := map[string]int{}
	for range 20000 {
		counters := 2 + r.IntN(100)
		l, m := drawn(r, r.IntN(8), 1+r.IntN(2), 1+r.IntN(2), counters), drawn(r, r.IntN(8), 1+r.IntN(2), 1+r.IntN(2), counters)
		merged, e := ledgers.Merge(l, m)
		if e != api.OK {
			t.Fatalf("Merge(%v, %v): error %d", l, m, e)
		}
		_, _, inL := ledgers.Repeats(l)
		_, _, inM := ledgers.Repeats(m)
		across := slices.ContainsFunc(l.Uses, func(u ledgers.Use) bool {
			return slices.ContainsFunc(m.Uses, func(v ledgers.Use) bool { return wantClash(u, v) })
		})
		counts[fmt.Sprint(inL, inM, across)]++
		if _, _, found := ledgers.Repeats(merged); found != (inL || inM || across) {
			t.Fatalf("Merge(%v, %v): clash %t, in them %t, %t, across %t", l, m, found, inL, inM, across)
		}
		if inL {
			i, j, _ := ledgers.Repeats(l)
			checkClash(t, "the clash of the first ledger", merged, i, j, true)
		}
	}
	if len(counts) != 8 {
		t.Errorf("the ledgers that were drawn are not varied enough: %v", counts)
	}
}

// P11.6: each use of one key counts once in the merged ledger, in all.
func TestCountOfMerged(t *testing.T) {
	l, m := of(valid()[:300]...), of(valid()[200:]...)
	merged, e := ledgers.Merge(l, m)
	if e != api.OK {
		t.Fatalf("Merge: error %d", e)
	}
	sum := 0
	for _, key := range [][16]byte{{}, {1}, {15: 1}, {0: 0x80, 15: 0xfe}} {
		n := ledgers.Count(merged, key)
		if n != ledgers.Count(l, key)+ledgers.Count(m, key) {
			t.Errorf("Count(%x) = %d", key, n)
		}
		sum += n
	}
	if sum == 0 {
		t.Error("no use has one of the keys")
	}
}

// R4: a result shares no memory with an argument, which stays as it is, also behind its end.
func TestNothingShared(t *testing.T) {
	all := valid()
	memory := slices.Clone(all)
	l, m := ledgers.Ledger{Uses: memory[:3]}, ledgers.Ledger{Uses: memory[10:14]} // with spare capacity
	added, _ := ledgers.Add(l, all[50])
	merged, _ := ledgers.Merge(l, m)
	withNone, _ := ledgers.Merge(l, ledgers.Ledger{})
	noneWith, _ := ledgers.Merge(ledgers.Ledger{}, m)
	twice, _ := ledgers.Merge(l, l)
	ledgers.Repeats(l)
	ledgers.Count(l, all[0].Key)
	ledgers.Text(l)
	if !slices.Equal(memory, all) {
		t.Fatal("the ledgers that were passed have changed")
	}
	for i := range memory {
		memory[i] = use(nonceM, 77, 78)
	}
	checkList(t, "Add", added, append(slices.Clone(all[:3]), all[50]))
	checkList(t, "Merge", merged, slices.Concat(all[:3], all[10:14]))
	checkList(t, "Merge with none", withNone, all[:3])
	checkList(t, "Merge of none", noneWith, all[10:14])
	checkList(t, "Merge with itself", twice, slices.Concat(all[:3], all[:3]))
}

// R4: results share no memory with each other.
func TestResultsAreNew(t *testing.T) {
	l := of(valid()[:5]...)
	s := text(l.Uses)
	one, _, _ := ledgers.Parse(s)
	two, _, _ := ledgers.Parse(s)
	for i := range one.Uses {
		one.Uses[i] = ledgers.Use{}
	}
	checkList(t, "Parse", two, l.Uses)
	one, _ = ledgers.Add(l, l.Uses[0])
	two, _ = ledgers.Add(l, l.Uses[0])
	for i := range one.Uses {
		one.Uses[i] = ledgers.Use{}
	}
	checkList(t, "Add", two, append(slices.Clone(l.Uses), l.Uses[0]))
}

// P11.3, R5: uses in a list that is not sorted stay in their order, whatever Repeats finds.
func TestArgumentsStay(t *testing.T) {
	r := rand.New(rand.NewPCG(11, 7))
	for range 500 {
		l := drawn(r, 30, 1, 2, 300)
		before := slices.Clone(l.Uses)
		ledgers.Check(l)
		ledgers.Repeats(l)
		ledgers.Count(l, [16]byte{})
		ledgers.Text(l)
		if !reflect.DeepEqual(l.Uses, before) {
			t.Fatalf("the uses %v became %v", before, l.Uses)
		}
	}
}

// R5: calls depend on their arguments only, also if they happen at the same time.
func TestCallsAtOnce(t *testing.T) {
	r := rand.New(rand.NewPCG(11, 8))
	l := drawn(r, 200, 2, 3, 3000)
	wantI, wantJ, wantFound := wantRepeats(l)
	want := text(l.Uses)
	var group sync.WaitGroup
	for range 8 {
		group.Go(func() {
			for range 20 {
				if i, j, found := ledgers.Repeats(l); i != wantI || j != wantJ || found != wantFound {
					t.Errorf("Repeats = %d, %d, %t, want %d, %d, %t", i, j, found, wantI, wantJ, wantFound)
				}
				if s, e := ledgers.Text(l); s != want || e != api.OK {
					t.Errorf("Text: error %d, or another text", e)
				}
				if back, n, e := ledgers.Parse(want); !slices.Equal(back.Uses, l.Uses) || n != 0 || e != api.OK {
					t.Errorf("Parse: line %d, error %d, or other uses", n, e)
				}
			}
		})
	}
	group.Wait()
}
