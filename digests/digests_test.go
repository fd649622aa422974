package digests_test

import (
	"bytes"
	"encoding/hex"
	"math/big"
	"math/bits"
	"slices"
	"strings"
	"testing"

	"caisson/api"
	"caisson/digests"
)

// FIPS 180's own examples.
var examples = map[string]string{
	"":    "e3b0c442 98fc1c14 9afbf4c8 996fb924 27ae41e4 649b934c a495991b 7852b855",
	"abc": "ba7816bf 8f01cfea 414140de 5dae2223 b00361a3 96177a9c b410ff61 f20015ad",
	"abcdbcdecdefdefgefghfghighijhijkijkljklmklmnlmnomnopnopq":                                                         "248d6a61 d20638b8 e5c02693 0c3e6039 a33ce459 64ff2167 f6ecedd4 19db06c1",
	"abcdefghbcdefghicdefghijdefghijkefghijklfghijklmghijklmnhijklmnoijklmnopjklmnopqklmnopqrlmnopqrsmnopqrstnopqrstu": "cf5b16a7 78af8380 036ce59e 7b049237 0b249b11 e8f07a51 afac4503 7afee9d1",
}

// The digests of pattern(n), as another program (sha256sum) computes them.
var digestsOfLengths = map[int]string{
	0:      "e3b0c44298fc1c149afbf4c8996fb92427ae41e4649b934ca495991b7852b855",
	1:      "6e340b9cffb37a989ca544e6bb780a2c78901d3fb33738768511a30617afa01d",
	3:      "ae4b3280e56e2faf83f414a6e3dabe9d5fbe18976544c05fed121accb85b53fc",
	54:     "675f28acc0b90a72d1c3a570fe83ac565555db358cf01826dc8eefb2bf7ca0f3",
	55:     "463eb28e72f82e0a96c0a4cc53690c571281131f672aa229e0d45ae59b598b59",
	56:     "da2ae4d6b36748f2a318f23e7ab1dfdf45acdc9d049bd80e59de82a60895f562",
	57:     "2fe741af801cc238602ac0ec6a7b0c3a8a87c7fc7d7f02a3fe03d1c12eac4d8f",
	62:     "c89da82cbcd76ddf220e4e9091019b9866ffda72bee30de1effe6c99701a2221",
	63:     "29af2686fd53374a36b0846694cc342177e428d1647515f078784d69cdb9e488",
	64:     "fdeab9acf3710362bd2658cdc9a29e8f9c757fcf9811603a8c447cd1d9151108",
	65:     "4bfd2c8b6f1eec7a2afeb48b934ee4b2694182027e6d0fc075074f2fabb31781",
	118:    "d32ab00929cb935b79d44e74c5a745db460ff794dea3b79be40c1cc5cf5388ef",
	119:    "da18797ed7c3a777f0847f429724a2d8cd5138e6ed2895c3fa1a6d39d18f7ec6",
	120:    "f52b23db1fbb6ded89ef42a23ce0c8922c45f25c50b568a93bf1c075420bbb7c",
	121:    "335a461692b30bba1d647cc71604e88e676c90e4c22455d0b8c83f4bd7c8ac9b",
	127:    "92ca0fa6651ee2f97b884b7246a562fa71250fedefe5ebf270d31c546bfea976",
	128:    "471fb943aa23c511f6f72f8d1652d9c880cfa392ad80503120547703e56a2be5",
	129:    "5099c6a56203f9687f7d33f4bfdf576d31dc91f6b695ecea38b2770c87631135",
	183:    "b1459345163aed1c356302a5230f8912564b04f340610b18ef1aa2c47b418981",
	184:    "82f63a1d007fd9796756abbbf51c246884dde3d79cf9cacacc901462ae75e3ff",
	191:    "d280f473c251cb75c91880ea0eca2a2f1cda3152bef54a38c4a3aedad615c819",
	192:    "8b4a544837a1a0280fa8a7c82865c27a1064b3cc6281fda0753566b9bb104a87",
	193:    "7daafa7aed7d63d06a98b7b6f785eab5427d084f30d5c9ee6dd0d2f3ada329e6",
	1000:   "4e4c294b331f7a2099a379bec34b9f9fc03dc46ab465d998f4d683da53487e6d",
	100000: "cd2df694e424bc7968cc37f47751019e5ca0cd1bdf2e479ea537c3a1c32ee1aa",
}

// pattern returns n bytes whose period fits no block.
func pattern(n int) []byte {
	b := make([]byte, n)
	for i := range b {
		b[i] = byte(i % 251)
	}
	return b
}

func digest(t *testing.T, text string) api.Digest {
	t.Helper()
	b, err := hex.DecodeString(strings.ReplaceAll(text, " ", ""))
	if err != nil || len(b) != len(api.Digest{}) {
		t.Fatalf("%q is no digest", text)
	}
	return api.Digest(b)
}

// reference is what the chapter says, with constants that are computed, not written down.
type reference struct {
	k [64]uint32
	h [8]uint32
}

func newReference() *reference {
	var r reference
	n := 0
	for p := int64(2); n < len(r.k); p++ {
		if !big.NewInt(p).ProbablyPrime(0) {
			continue
		}
		r.k[n] = fraction(p, 3)
		if n < len(r.h) {
			r.h[n] = fraction(p, 2)
		}
		n++
	}
	return &r
}

// fraction returns the first 32 bits of the fractional part of a root of p.
func fraction(p, degree int64) uint32 {
	scaled := new(big.Int).Lsh(big.NewInt(p), uint(32*degree))
	root := new(big.Int)
	for bit := 40; bit >= 0; bit-- {
		root.SetBit(root, bit, 1)
		if new(big.Int).Exp(root, big.NewInt(degree), nil).Cmp(scaled) > 0 {
			root.SetBit(root, bit, 0)
		}
	}
	return uint32(root.Uint64())
}

func (r *reference) compress(h [8]uint32, b [64]byte) [8]uint32 {
	rotr := func(x uint32, n int) uint32 { return bits.RotateLeft32(x, -n) }
	w := make([]uint32, 64)
	for i, c := range b {
		w[i/4] |= uint32(c) << (24 - 8*(i%4))
	}
	for t := 16; t < 64; t++ {
		x, y := w[t-15], w[t-2]
		w[t] = (rotr(y, 17) ^ rotr(y, 19) ^ (y >> 10)) + w[t-7] + (rotr(x, 7) ^ rotr(x, 18) ^ (x >> 3)) + w[t-16]
	}
	v := slices.Clone(h[:])
	for t := range 64 {
		t1 := v[7] + (rotr(v[4], 6) ^ rotr(v[4], 11) ^ rotr(v[4], 25)) + ((v[4] & v[5]) ^ (^v[4] & v[6])) + r.k[t] + w[t]
		t2 := (rotr(v[0], 2) ^ rotr(v[0], 13) ^ rotr(v[0], 22)) + ((v[0] & v[1]) ^ (v[0] & v[2]) ^ (v[1] & v[2]))
		v = []uint32{t1 + t2, v[0], v[1], v[2], v[3] + t1, v[4], v[5], v[6]}
	}
	for i := range h {
		h[i] += v[i]
	}
	return h
}

// P2.1
func TestInitial(t *testing.T) {
	want := [8]uint32{0x6a09e667, 0xbb67ae85, 0x3c6ef372, 0xa54ff53a, 0x510e527f, 0x9b05688c, 0x1f83d9ab, 0x5be0cd19}
	got := digests.Initial()
	if got != want || got != newReference().h {
		t.Errorf("Initial() = %x, want %x", got, want)
	}
	clear(got[:])
	if again := digests.Initial(); again != want {
		t.Errorf("Initial() = %x, after its result was changed", again)
	}
}

// P2.1: the block of "abc" with its ending, as in FIPS 180's example.
func TestCompressOneBlock(t *testing.T) {
	b := [64]byte{'a', 'b', 'c', 0x80, 63: 24}
	want := [8]uint32{0xba7816bf, 0x8f01cfea, 0x414140de, 0x5dae2223, 0xb00361a3, 0x96177a9c, 0xb410ff61, 0xf20015ad}
	if got := digests.Compress(digests.Initial(), b); got != want {
		t.Errorf("Compress = %x, want %x", got, want)
	}
}

// P2.1: any state, any block, among them those with each single bit, and with sums that overflow.
func TestCompress(t *testing.T) {
	r := newReference()
	check := func(h [8]uint32, b [64]byte) [8]uint32 {
		t.Helper()
		got, want := digests.Compress(h, b), r.compress(h, b)
		if got != want {
			t.Fatalf("Compress(%x, %x) = %x, want %x", h, b, got, want)
		}
		return got
	}
	var full [8]uint32
	for i := range full {
		full[i] = 1<<32 - 1
	}
	ones := [64]byte(bytes.Repeat([]byte{0xff}, 64))
	for _, h := range [][8]uint32{{}, full, digests.Initial(), {1, 2, 3, 4, 5, 6, 7, 8}} {
		check(h, [64]byte{})
		check(h, ones)
		check(h, [64]byte(pattern(64)))
	}
	for bit := range 512 {
		var b [64]byte
		b[bit/8] = 1 << (bit % 8)
		check(digests.Initial(), b)
	}
	for bit := range 256 {
		var h [8]uint32
		h[bit/32] = 1 << (bit % 32)
		check(h, ones)
	}
	h, b := digests.Initial(), ones
	for i := range 500 {
		h = check(h, b)
		b[i%64] ^= byte(h[i%8])
	}
}

// P2.2, P2.3
func TestExamples(t *testing.T) {
	for text, want := range examples {
		if got := digests.Of([]byte(text)); got != digest(t, want) {
			t.Errorf("Of(%q) = %x, want %s", text, got, want)
		}
		if got := digests.New().Write([]byte(text)).Sum(); got != digest(t, want) {
			t.Errorf("New().Write(%q).Sum() = %x, want %s", text, got, want)
		}
	}
	if got := digests.Of([]byte("a"), []byte("bc")); got != digest(t, examples["abc"]) {
		t.Errorf("Of(a, bc) = %x", got)
	}
	want := digest(t, "cdc76e5c 9914fb92 81a1c7e2 84d73e67 f1809a48 a497200e 046d39cc c7112cd0")
	if got := digests.Of(bytes.Repeat([]byte{'a'}, 1000000)); got != want {
		t.Errorf("a million letters: %x, want %x", got, want)
	}
}

// P2.2, P2.3: lengths at which the ending just fits into the last block, and just not.
func TestLengths(t *testing.T) {
	for n, text := range digestsOfLengths {
		b, want := pattern(n), digest(t, text)
		if got := digests.Of(b); got != want {
			t.Errorf("%d bytes: Of = %x, want %x", n, got, want)
		}
		if got := digests.New().Write(b).Sum(); got != want {
			t.Errorf("%d bytes: Sum = %x, want %x", n, got, want)
		}
		if !bytes.Equal(b, pattern(n)) {
			t.Errorf("%d bytes were modified", n)
		}
	}
}

// P2.3: all lengths up to 1000 bytes; the digest of their digests is known.
func TestAllLengths(t *testing.T) {
	var all []byte
	for n := range 1001 {
		d := digests.Of(pattern(n))
		all = append(all, d[:]...)
	}
	want := digest(t, "defc818d6df32b059932f8226f5166b4e402f0ea9a74ad5598241c794abcc06b")
	if got := digests.Of(all); got != want {
		t.Errorf("the digest of the digests is %x, want %x", got, want)
	}
}

// P2.2: a string with more than 2^32 bits, whose number needs more than 4 bytes.
func TestLongString(t *testing.T) {
	left := 1<<29 + 3
	chunk := pattern(251 * 4096)
	s := digests.New()
	for left > 0 {
		n := min(left, len(chunk))
		s = s.Write(chunk[:n])
		left -= n
	}
	want := digest(t, "9d71a1aed8d189ee13c117fdf19e423dcaa08795512d64ae3c49c22a3492462e")
	if got := s.Sum(); got != want {
		t.Errorf("2^29+3 bytes: %x, want %x", got, want)
	}
}

// P2.2, P2.3
func TestNothing(t *testing.T) {
	want := digest(t, examples[""])
	var zero digests.State
	for name, got := range map[string]api.Digest{
		"Of()":                 digests.Of(),
		"Of(nil)":              digests.Of(nil),
		"Of(nil, empty)":       digests.Of(nil, []byte{}),
		"New":                  digests.New().Sum(),
		"zero":                 zero.Sum(),
		"New, nothing written": digests.New().Write(nil).Write([]byte{}).Sum(),
	} {
		if got != want {
			t.Errorf("%s: %x, want %x", name, got, want)
		}
	}
}

// P2.2
func TestZeroStateIsLikeNew(t *testing.T) {
	for n := range digestsOfLengths {
		var zero digests.State
		if got, want := zero.Write(pattern(n)).Sum(), digests.New().Write(pattern(n)).Sum(); got != want {
			t.Errorf("%d bytes into the zero State: %x, into a new one: %x", n, got, want)
		}
	}
}

// P2.4
func TestDividedInTwo(t *testing.T) {
	for _, n := range []int{0, 1, 55, 56, 63, 64, 65, 119, 120, 128, 129, 200} {
		b := pattern(n)
		want := digests.Of(b)
		for at := range n + 1 {
			if got := digests.New().Write(b[:at]).Write(b[at:]).Sum(); got != want {
				t.Errorf("%d bytes written in two parts, divided at %d: %x, want %x", n, at, got, want)
			}
			if got := digests.Of(b[:at], nil, b[at:]); got != want {
				t.Errorf("Of %d bytes in two parts, divided at %d: %x, want %x", n, at, got, want)
			}
			if digests.New().Write(b[:at]).Write(b[at:]) != digests.New().Write(b) {
				t.Errorf("%d bytes make another State if they are divided at %d", n, at)
			}
		}
	}
}

// P2.4
func TestDividedInMany(t *testing.T) {
	b := pattern(1000)
	want := digest(t, digestsOfLengths[1000])
	for _, size := range []int{1, 2, 3, 7, 31, 55, 56, 63, 64, 65, 119, 127, 128, 129, 500, 999} {
		parts := slices.Collect(slices.Chunk(b, size))
		if got := digests.Of(parts...); got != want {
			t.Errorf("Of in parts of %d bytes: %x, want %x", size, got, want)
		}
		s := digests.New()
		for _, p := range parts {
			s = s.Write(p)
		}
		if s.Sum() != want {
			t.Errorf("written in parts of %d bytes: %x, want %x", size, s.Sum(), want)
		}
	}
}

// P2.4
func TestSumInBetween(t *testing.T) {
	b := pattern(300)
	s := digests.New()
	for n := range b {
		if got, again, want := s.Sum(), s.Sum(), digests.Of(b[:n]); got != want || again != want {
			t.Fatalf("after %d bytes: %x, then %x, want %x", n, got, again, want)
		}
		s = s.Write(b[n : n+1])
	}
}

// P2.2: of every State, also one with a part of a block, others can be made in several ways.
func TestStepsChangeNoState(t *testing.T) {
	for _, n := range []int{0, 1, 54, 55, 56, 63, 64, 65, 119, 128, 150} {
		b := pattern(n)
		s := digests.New().Write(b)
		kept := s
		for _, more := range []string{"", "x", "yz", strings.Repeat("long", 50)} {
			next := s.Write([]byte(more))
			if got, want := next.Sum(), digests.Of(b, []byte(more)); got != want {
				t.Errorf("%d bytes, then %q: %x, want %x", n, more, got, want)
			}
			next.Write([]byte("thrown away")).Sum()
			if got, want := next.Sum(), digests.Of(b, []byte(more)); got != want {
				t.Errorf("%d bytes, then %q, asked again: %x, want %x", n, more, got, want)
			}
			if got, want := s.Sum(), digests.Of(b); got != want || kept.Sum() != want {
				t.Errorf("the State with %d bytes has changed: %x, want %x", n, got, want)
			}
		}
	}
}

// P2.2
func TestStateSharesNoMemory(t *testing.T) {
	for _, n := range []int{1, 10, 63, 64, 65, 100, 200} {
		b := pattern(n)
		s := digests.New().Write(b)
		want := s.Sum()
		clear(b)
		if got := s.Sum(); got != want || got != digests.Of(pattern(n)) {
			t.Errorf("%d bytes changed after they were written: %x, want %x", n, got, want)
		}
	}
}

// P2.2: what stands behind the end of a slice is neither read nor overwritten.
func TestSpareCapacity(t *testing.T) {
	b := pattern(200)
	for _, n := range []int{0, 1, 55, 64, 70} {
		s := digests.New().Write(b[:n])
		if got, want := s.Sum(), digests.Of(pattern(n)); got != want {
			t.Errorf("%d of 200 bytes: %x, want %x", n, got, want)
		}
		if !bytes.Equal(b, pattern(200)) {
			t.Fatalf("the bytes behind the first %d were modified", n)
		}
	}
}

// P2.2, P2.4: whatever was there before, different strings are told apart.
func TestDifferentStrings(t *testing.T) {
	seen := map[api.Digest]int{}
	for n := range 200 {
		d := digests.Of(make([]byte, n))
		if m, found := seen[d]; found {
			t.Errorf("%d and %d zeros have the same digest", m, n)
		}
		seen[d] = n
	}
}
