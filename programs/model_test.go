package programs_test

import (
	"bytes"
	"fmt"
	"math"
	"math/big"
	"math/rand/v2"
	"regexp"
	"slices"
	"strings"
	"testing"

	"caisson/api"
	"caisson/programs"
)

func read(i int) api.Op            { return api.Op{Kind: 1, Index: i} }
func write(i int, b []byte) api.Op { return api.Op{Kind: 2, Index: i, Data: b} }
func flush() api.Op                { return api.Op{Kind: 3} }

func op(kind uint8, i int, b ...byte) api.Op {
	return api.Op{Kind: api.OpKind(kind), Index: i, Data: b}
}

func list(l ...[]api.Op) [][]api.Op     { return l }
func program(ops ...api.Op) []api.Op    { return ops }
func alone(ops ...api.Op) [][]api.Op    { return [][]api.Op{ops} }
func times(n int, o api.Op) []api.Op    { return slices.Repeat([]api.Op{o}, n) }
func drawer(seed uint64) *rand.Rand     { return rand.New(rand.NewPCG(seed, 23)) }
func lines(l ...string) string          { return strings.Join(l, "\n") + "\n" }
func pick[T any](r *rand.Rand, l []T) T { return l[r.IntN(len(l))] }

// data returns n bytes, of which the first and the last one are not zero.
func data(n int) []byte {
	b := make([]byte, n)
	for i := range b {
		b[i] = byte(i*37 + 0xa1)
	}
	return b
}

// Numbers of bytes, kinds, indices and numbers of blocks around each one that matters.
func sizes() []int   { return []int{0, 1, 2, 31, 32, 33, 63, 64} }
func kinds() []uint8 { return []uint8{0, 1, 2, 3, 4, 5, 9, 10, 99, 100, 127, 128, 254, 255} }

func indices() []int {
	return []int{0, 1, -1, 2, 3, 4, 5, -2, 9, 10, -9, -10, 99, 100, -100, 4095, 4096, 1<<31 - 1, 1 << 31, 1 << 32, -1 << 31, 1 << 53, math.MaxInt - 1, math.MaxInt, math.MinInt + 1, math.MinInt}
}

func volumes() []int {
	return []int{math.MinInt, math.MinInt + 1, -4096, -1, 0, 1, 2, 3, 4, 5, 4095, 4096, 4097, 1 << 31, 1 << 32, math.MaxInt - 1, math.MaxInt}
}

// isBad tells whether an operation is bad, by numbers without an end.
func isBad(o api.Op, blocks int) bool {
	index, n := big.NewInt(int64(o.Index)), big.NewInt(int64(blocks))
	inside := index.Sign() >= 0 && index.Cmp(n.Sub(n, big.NewInt(1))) <= 0
	switch uint8(o.Kind) {
	case 1:
		return !inside
	case 2:
		return !inside || len(o.Data) != 32
	}
	return o.Kind != 3
}

// wantCheck returns the error of a list.
func wantCheck(l [][]api.Op) api.Errno {
	e := api.OK
	if len(l) > 8 {
		e = 3
	}
	for _, p := range l {
		if len(p) > 64 {
			e = 3
		}
		for _, o := range p {
			if len(o.Data) > 64 {
				e = 3
			}
		}
	}
	return e
}

// wantCount returns the numbers of operations by their kinds.
func wantCount(l [][]api.Op) [4]int {
	var n [4]int
	for _, o := range slices.Concat(l...) {
		n[map[api.OpKind]int{1: 1, 2: 2, 3: 3}[o.Kind]]++
	}
	return [4]int{n[1], n[2], n[3], n[0]}
}

// wantTouched returns the blocks that are touched: each in its place among those that were found before.
func wantTouched(l [][]api.Op, blocks int) []int {
	var touched []int
	for _, o := range slices.Concat(l...) {
		if o.Kind == 3 || isBad(o, blocks) {
			continue
		}
		if at, found := slices.BinarySearch(touched, o.Index); !found {
			touched = slices.Insert(touched, at, o.Index)
		}
	}
	return touched
}

// wantLine returns the line of an operation.
func wantLine(o api.Op) string {
	d := "-"
	if len(o.Data) > 0 {
		d = fmt.Sprintf("%x", o.Data)
	}
	switch {
	case o.Kind == 2:
		return fmt.Sprintf("write %d %s", o.Index, d)
	case o.Kind == 1 && d == "-":
		return fmt.Sprintf("read %d", o.Index)
	case o.Kind == 3 && o.Index == 0 && d == "-":
		return "flush"
	}
	return fmt.Sprintf("op %d %d %s", uint8(o.Kind), o.Index, d)
}

// wantText returns the text of a list, whether it is valid or not.
func wantText(l [][]api.Op) string {
	var b strings.Builder
	for _, p := range l {
		b.WriteString("client\n")
		for _, o := range p {
			b.WriteString(wantLine(o) + "\n")
		}
	}
	return b.String()
}

// The forms of all lines, with their line feeds; numbers are without their bounds.
var (
	clientForm = regexp.MustCompile(`\Aclient\n\z`)
	readForm   = regexp.MustCompile(`\Aread (0|-?[1-9][0-9]*)\n\z`)
	writeForm  = regexp.MustCompile(`\Awrite (0|-?[1-9][0-9]*) (-|(?:[0-9a-f][0-9a-f])+)\n\z`)
	flushForm  = regexp.MustCompile(`\Aflush\n\z`)
	otherForm  = regexp.MustCompile(`\Aop (0|[1-9][0-9]*) (0|-?[1-9][0-9]*) (-|(?:[0-9a-f][0-9a-f])+)\n\z`)
)

// number returns the number that digits stand for, and whether it is one from least to greatest.
func number(digits string, least, greatest int) (int, bool) {
	n, ok := new(big.Int).SetString(digits, 10)
	if !ok {
		return 0, false
	}
	inside := n.Cmp(big.NewInt(int64(least))) >= 0 && n.Cmp(big.NewInt(int64(greatest))) <= 0
	return int(n.Int64()), inside
}

// unhex returns the bytes of a word that has the form of data.
func unhex(word string) []byte {
	if word == "-" {
		return nil
	}
	var b []byte
	for i := 0; i < len(word); i += 2 {
		b = append(b, byte(strings.IndexByte("0123456789abcdef", word[i])*16+strings.IndexByte("0123456789abcdef", word[i+1])))
	}
	return b
}

// wantOp returns the operation of a line with its line feed, and whether it is of the form of one.
func wantOp(line string) (api.Op, bool) {
	var kind, index, d = "", "0", "-"
	if m := readForm.FindStringSubmatch(line); m != nil {
		kind, index = "1", m[1]
	} else if m := writeForm.FindStringSubmatch(line); m != nil {
		kind, index, d = "2", m[1], m[2]
	} else if flushForm.MatchString(line) {
		kind = "3"
	} else if m := otherForm.FindStringSubmatch(line); m != nil {
		kind, index, d = m[1], m[2], m[3]
		// The lines that say what another form says.
		if kind == "1" && d == "-" || kind == "2" || kind == "3" && index == "0" && d == "-" {
			return api.Op{}, false
		}
	} else {
		return api.Op{}, false
	}
	k, ok := number(kind, 0, 255)
	i, fits := number(index, math.MinInt, math.MaxInt)
	return api.Op{Kind: api.OpKind(k), Index: i, Data: unhex(d)}, ok && fits
}

// wantParse returns what Parse returns for a text.
func wantParse(s string) ([][]api.Op, int, api.Errno) {
	if len(s) > 1048576 {
		return nil, 0, 3
	}
	l := [][]api.Op{}
	for n, line := range strings.SplitAfter(s, "\n") {
		if line == "" { // behind the last line feed
			break
		}
		if clientForm.MatchString(line) {
			if len(l) == 8 {
				return nil, n + 1, 3
			}
			l = append(l, nil)
			continue
		}
		o, ok := wantOp(line)
		if !ok || len(l) == 0 {
			return nil, n + 1, 5
		}
		p := &l[len(l)-1]
		if len(*p) == 64 || len(o.Data) > 64 {
			return nil, n + 1, 3
		}
		*p = append(*p, o)
	}
	return l, 0, 0
}

// equal tells whether two lists are equal.
func equal(a, b [][]api.Op) bool {
	if len(a) != len(b) {
		return false
	}
	for i := range a {
		if len(a[i]) != len(b[i]) {
			return false
		}
		for j, o := range a[i] {
			if o.Kind != b[i][j].Kind || o.Index != b[i][j].Index || string(o.Data) != string(b[i][j].Data) {
				return false
			}
		}
	}
	return true
}

// copied returns a list with memory of its own.
func copied(l [][]api.Op) [][]api.Op {
	made := slices.Clone(l)
	for i, p := range made {
		made[i] = slices.Clone(p)
		for j, o := range p {
			made[i][j].Data = bytes.Clone(o.Data)
		}
	}
	return made
}

// checkList checks that a list that was returned is the one that is wanted, without spare capacity, and with memory of its own in each part. It overwrites it, so that what shares memory with it is changed.
func checkList(t *testing.T, call string, l, want [][]api.Op) {
	t.Helper()
	if !equal(l, want) {
		t.Fatalf("%.300q: %.500v, want %.500v", call, l, want)
	}
	full := cap(l) == len(l)
	for i, p := range l {
		full = full && cap(p) == len(p)
		for j, o := range p {
			full = full && cap(o.Data) == len(o.Data)
			for k := range o.Data {
				o.Data[k] = byte(5*i + 3*j + k)
			}
			p[j].Index = 1000*i + j
		}
	}
	if !full {
		t.Fatalf("%.300q: spare capacity", call)
	}
	for i, p := range l {
		for j, o := range p {
			own := o.Index == 1000*i+j
			for k := range o.Data {
				own = own && o.Data[k] == byte(5*i+3*j+k)
			}
			if !own {
				t.Fatalf("%.300q: parts of the list share memory", call)
			}
		}
	}
	for i := range l {
		l[i] = nil
	}
}

// checkText checks what Text returns for a list, and that the list is not changed.
func checkText(t *testing.T, l [][]api.Op) string {
	t.Helper()
	before := copied(l)
	want, wantError := wantText(l), wantCheck(l)
	if wantError != api.OK {
		want = ""
	}
	s, e := programs.Text(l)
	if s != want || e != wantError {
		t.Fatalf("Text(%.300v) = %.500q, error %d, want %.500q, error %d", l, s, e, want, wantError)
	}
	if !equal(l, before) {
		t.Fatalf("Text(%.300v) changed the list", before)
	}
	return s
}

// checkParse checks what Parse returns for a text: twice, so that results do not share memory, and that Text inverts it.
func checkParse(t *testing.T, s string) {
	t.Helper()
	want, wantAt, wantError := wantParse(s)
	for range 2 {
		l, line, e := programs.Parse(s)
		if line != wantAt || e != wantError {
			t.Fatalf("Parse(%.500q): line %d, error %d, want line %d, error %d", s, line, e, wantAt, wantError)
		}
		if e != api.OK && len(l) > 0 {
			t.Fatalf("Parse(%.500q): %d programs with an error", s, len(l))
		}
		if e == api.OK {
			if e := programs.Check(l); e != api.OK {
				t.Fatalf("Parse(%.500q): a list that is not valid", s)
			}
			if back, e := programs.Text(l); back != s || e != api.OK {
				t.Fatalf("Text(Parse(%.500q)) = %.500q, error %d", s, back, e)
			}
		}
		checkList(t, s, l, want)
	}
}

// checkFault checks that Parse returns a line and an error.
func checkFault(t *testing.T, s string, line int, e api.Errno) {
	t.Helper()
	if l, at, got := programs.Parse(s); at != line || got != e || len(l) > 0 {
		t.Fatalf("Parse(%.500q): %d programs, line %d, error %d, want line %d, error %d", s, len(l), at, got, line, e)
	}
	checkParse(t, s)
}

// checkAll checks what all functions say of a list.
func checkAll(t *testing.T, l [][]api.Op) {
	t.Helper()
	before := copied(l)
	if e := programs.Check(l); e != wantCheck(l) {
		t.Fatalf("Check(%.500v) = %d, want %d", l, e, wantCheck(l))
	}
	reads, writes, flushes, others := programs.Count(l)
	if got := [4]int{reads, writes, flushes, others}; got != wantCount(l) {
		t.Fatalf("Count(%.500v) = %v, want %v", l, got, wantCount(l))
	}
	if reads+writes+flushes+others != len(slices.Concat(l...)) {
		t.Fatalf("Count(%.500v): not as many as there are operations", l)
	}
	for _, n := range volumes() {
		checkTouched(t, l, n)
	}
	if !programs.Same(l, before) || !programs.Same(before, l) {
		t.Fatalf("Same(%.500v, a copy of it) = false", l)
	}
	if !equal(l, before) {
		t.Fatalf("%.500v was changed", before)
	}
	s := checkText(t, l)
	if wantCheck(l) == api.OK {
		checkParse(t, s)
		back, line, e := programs.Parse(s)
		if line != 0 || e != api.OK {
			t.Fatalf("Parse(Text(%.500v)): line %d, error %d", l, line, e)
		}
		checkList(t, s, back, l)
	}
}

// checkTouched checks what Touched returns: twice, so that results do not share memory.
func checkTouched(t *testing.T, l [][]api.Op, blocks int) {
	t.Helper()
	want := wantTouched(l, blocks)
	for range 2 {
		got := programs.Touched(l, blocks)
		if !slices.Equal(got, want) || cap(got) != len(got) {
			t.Fatalf("Touched(%.500v, %d) = %v with room for %d, want %v", l, blocks, got, cap(got), want)
		}
		for i := range got {
			got[i] = -7
		}
	}
}

// drawnOp returns an operation of any sort.
func drawnOp(r *rand.Rand) api.Op {
	o := op(pick(r, kinds()), pick(r, indices()))
	if r.IntN(3) > 0 {
		o.Kind = api.OpKind(1 + r.IntN(3))
	}
	if r.IntN(2) > 0 {
		o.Index = r.IntN(6)
	}
	if r.IntN(2) > 0 {
		o.Data = data(pick(r, sizes()))
	}
	for i := range o.Data {
		o.Data[i] = byte(r.Uint32())
	}
	return o
}

// drawnList returns a list of at most n programs, each of at most m operations.
func drawnList(r *rand.Rand, n, m int) [][]api.Op {
	l := make([][]api.Op, r.IntN(n+1))
	for i := range l {
		for range r.IntN(m + 1) {
			l[i] = append(l[i], drawnOp(r))
		}
	}
	return l
}
