package seals_test

import (
	"bytes"
	"encoding/hex"
	"math"
	"slices"
	"strings"
	"sync"
	"testing"

	"caisson/api"
	"caisson/derives"
	"caisson/macs"
	"caisson/seals"
	"caisson/streams"
)

const (
	maxIndex   = api.MaxBlocks - 1
	maxShard   = math.MaxUint32
	maxCounter = math.MaxUint64
)

type vector struct {
	enc, mac         string
	index            int
	nonce            api.Nonce
	plain, data, tag string
}

// What blocks are sealed to, as other programs (Python's hmac, and OpenSSL through Python's cryptography) compute it. The keys of the first rows are those of volumes.
var vectors = []vector{
	{"0c3ea19725e4a46a1ab2765e56b0c9aa", "e62f501558c2d64065402ee85d9cbed298e3df115031a4f2a02d781c63c742bd", 3, api.Nonce{Shard: 1, Counter: 2},
		"0000000000000000000000000000000000000000000000000000000000000000",
		"8d68459ee0572e2c830d4ffcf31d539e68236247b566b5adbc5c9c282eab8fc1",
		"68a1213c643127de2126fada174aa9d76735ffc7016da976060d2546ee02c432"},
	{"0c3ea19725e4a46a1ab2765e56b0c9aa", "e62f501558c2d64065402ee85d9cbed298e3df115031a4f2a02d781c63c742bd", 3, api.Nonce{Shard: 1, Counter: 2},
		"ffffffffffffffffffffffffffffffffffffffffffffffffffffffffffffffff",
		"7297ba611fa8d1d37cf2b0030ce2ac6197dc9db84a994a5243a363d7d154703e",
		"29104e2a2fd01e75eb5402c9bc8b100ea2ade1dbb91828e62c4f0c8f2b75f18a"},
	{"0c3ea19725e4a46a1ab2765e56b0c9aa", "e62f501558c2d64065402ee85d9cbed298e3df115031a4f2a02d781c63c742bd", 0, api.Nonce{Shard: 0, Counter: 0},
		"0000000000000000000000000000000000000000000000000000000000000000",
		"7e83083ea372153467390582fad2dc0a164e327e4d4b1ec46945f454a55bed8b",
		"5de555aa07475c1c6eacdc1394dd4110ef68c928f0864055d34332957e20ca4c"},
	{"0c3ea19725e4a46a1ab2765e56b0c9aa", "e62f501558c2d64065402ee85d9cbed298e3df115031a4f2a02d781c63c742bd", 0, api.Nonce{Shard: 0, Counter: 0},
		"000102030405060708090a0b0c0d0e0f101112131415161718191a1b1c1d1e1f",
		"7e820a3da77713336f300f89f6dfd205065f206d595e08d3715cee4fb946f394",
		"35ffde372b2f8913bd1f97bc7cfb0e9ffb4b707157745463d531be2123230b03"},
	{"0c3ea19725e4a46a1ab2765e56b0c9aa", "e62f501558c2d64065402ee85d9cbed298e3df115031a4f2a02d781c63c742bd", 4095, api.Nonce{Shard: 0, Counter: 1},
		"000102030405060708090a0b0c0d0e0f101112131415161718191a1b1c1d1e1f",
		"eb759f3dc5aaa1cc640aa814f0667afb23b5c7524b352bcd3df0b29086d4bd06",
		"96a01c05a2aeafbdda4db952c09f0fe3f9c609bdb419bcdf908a421863318ec0"},
	{"0c3ea19725e4a46a1ab2765e56b0c9aa", "e62f501558c2d64065402ee85d9cbed298e3df115031a4f2a02d781c63c742bd", 4095, api.Nonce{Shard: 0xffffffff, Counter: 0xffffffffffffffff},
		"ffffffffffffffffffffffffffffffffffffffffffffffffffffffffffffffff",
		"91d6e9effd4045af837aaf4fdb8ee60796c1918a2c89d0cb44ffc9e9d423daaf",
		"4df6a635d8aeff032404f1902661f8bd41069b4c32c8a967500577fe8db065ec"},
	{"a2f5b3980361c212b8f16691c5e890de", "78a1110179ebcbbe96472250adadc7bec22fb0aaacd94f9f30d554e02d1fc9cf", 1, api.Nonce{Shard: 0, Counter: 1},
		"000102030405060708090a0b0c0d0e0f101112131415161718191a1b1c1d1e1f",
		"8870fda6072a0e17688965598dc7da4dbc76004989001dcee71455b68aa9d44b",
		"9390e42cc6767bb4f8d7426c98f0fd206422c7f86dc5b5577eacb152b2ed6ac7"},
	{"a2f5b3980361c212b8f16691c5e890de", "78a1110179ebcbbe96472250adadc7bec22fb0aaacd94f9f30d554e02d1fc9cf", 258, api.Nonce{Shard: 0x1020304, Counter: 0x5060708090a0b0c},
		"030a11181f262d343b424950575e656c737a81888f969da4abb2b9c0c7ced5dc",
		"0d276a95acb6373b3dda6126f0ec563ca12f8a36e2a782ed86d338108b09b61c",
		"1f58af8fee306f873b52cf3a9bec735ad3c16061cdb74de87d0b16c071f0a517"},
	{"a2f5b3980361c212b8f16691c5e890de", "78a1110179ebcbbe96472250adadc7bec22fb0aaacd94f9f30d554e02d1fc9cf", 4094, api.Nonce{Shard: 7, Counter: 0xfffffffffffffffe},
		"0000000000000000000000000000000000000000000000000000000000000000",
		"e5392e19d5ae6360a0b932195a88cd8e4de5f92ab69775b931bcf8d84b0b3d58",
		"7c2147e45ba80ef7140e736bc76cde36656f7a0b23687984956e807404c33bb6"},
	{"82fbc43c3e4ad4daafd4b3d1c8ccdda1", "1a9bc53393bdb60bfb5cdd21e28aedb0504fd4a86dd3914736cad5a68c8b42d2", 256, api.Nonce{Shard: 0, Counter: 0x100000000},
		"030a11181f262d343b424950575e656c737a81888f969da4abb2b9c0c7ced5dc",
		"87cbd7eb8431e9d771f202e8957231c63e85f76cdfcad9a80c352b343f632d5d",
		"c1bfa05b125297a31540b08eedbdfc9cd6ea95ceccad26ed75d8a8e0f357e82d"},
	{"82fbc43c3e4ad4daafd4b3d1c8ccdda1", "1a9bc53393bdb60bfb5cdd21e28aedb0504fd4a86dd3914736cad5a68c8b42d2", 255, api.Nonce{Shard: 8, Counter: 0xffffffff},
		"000102030405060708090a0b0c0d0e0f101112131415161718191a1b1c1d1e1f",
		"7169e5ff741f07b750a158953c537e2a21a5d944da691e443f33cf917874ce3e",
		"97c469236dc17d22b117ff19618e2df79d5db769b1ec8bd386dea2d4bb5fa394"},
	{"95989993071ce4b413756e618fdeb005", "8cc4350bcaee6df006d5a80b683bcb5c32792e0188380814f5f99e14880eb7be", 2048, api.Nonce{Shard: 0x80000000, Counter: 0x8000000000000000},
		"030a11181f262d343b424950575e656c737a81888f969da4abb2b9c0c7ced5dc",
		"dffd77e905856fc274ceac897168c568edfd46705034bec1fd260934fd40d255",
		"76cee42373f12097f00b628272329bb8d3255f64f0dcc5a7ffdba9c9a4d003be"},
	{"00000000000000000000000000000000", "0000000000000000000000000000000000000000000000000000000000000000", 0, api.Nonce{Shard: 0, Counter: 0},
		"0000000000000000000000000000000000000000000000000000000000000000",
		"66e94bd4ef8a2c3b884cfa59ca342b2e58e2fccefa7e3061367f1d57a4e7455a",
		"aa1e30ec5dc114e9b109440b47b01bee33c5ea8864646c1481ac4ab9baf3d1e8"},
	{"00000000000000000000000000000000", "0000000000000000000000000000000000000000000000000000000000000000", 0, api.Nonce{Shard: 0, Counter: 0},
		"ffffffffffffffffffffffffffffffffffffffffffffffffffffffffffffffff",
		"9916b42b1075d3c477b305a635cbd4d1a71d03310581cf9ec980e2a85b18baa5",
		"cb44a3a34b9cff3736455ae35763466717f5b5afea1dd99fd6df0bd9ae2fb6a3"},
	{"ffffffffffffffffffffffffffffffff", "ffffffffffffffffffffffffffffffffffffffffffffffffffffffffffffffff", 4095, api.Nonce{Shard: 0xffffffff, Counter: 0xffffffffffffffff},
		"000102030405060708090a0b0c0d0e0f101112131415161718191a1b1c1d1e1f",
		"d5861f3b56afc7753e81176267e9e09dee39f2ea98c837d5eb40034e39eee2bf",
		"a0e9987ed520a161195f8e5b510a91188bf38afcb2fffb1d10f99fc8da08a013"},
	{"2b7e151628aed2a6abf7158809cf4f3c", "030a11181f262d343b424950575e656c737a81888f969da4abb2b9c0c7ced5dc", 17, api.Nonce{Shard: 0xf0f1f2f3, Counter: 0xf4f5f6f7f8f9fafb},
		"6bc1bee22e409f96e93d7e117393172aae2d8a571e03ac9c9eb76fac45af8e51",
		"22e52fb177d865b2f7c6b512692d114ded6c1c7225daf6a2aad9d3da2dba2168",
		"1f9f693aa25a5db71b521209ccbc3a0355204259f849d896df4fca152a19b911"},
	{"000102030405060708090a0b0c0d0e0f", "000102030405060708090a0b0c0d0e0f101112131415161718191a1b1c1d1e1f", 1000, api.Nonce{Shard: 3, Counter: 0x2bdc545d6b4b87},
		"000102030405060708090a0b0c0d0e0f101112131415161718191a1b1c1d1e1f",
		"bda99e2bf51004b86b8cf3dbf803cf7f80f1269ef2babb368249f8b19c810f85",
		"34b36bf033234a7a20c303bf00bae4d8183092c50d81d02215c9c9b4b5c5e0b8"},
}

// Indices that are none.
var badIndices = []int{-1, api.MaxBlocks, -2, api.MaxBlocks + 1, 2*api.MaxBlocks - 1, 2 * api.MaxBlocks, -maxIndex, -api.MaxBlocks, 1 << 16, 1<<16 + 3, 1 << 31, 1<<32 - 1, 1 << 32, 1<<32 + 3, -1 << 32, 3 - 1<<32, math.MinInt, math.MinInt + 1, math.MinInt + 3, math.MaxInt - 1, math.MaxInt}

var goodIndices = []int{0, 1, 2, 3, 4, 15, 16, 127, 128, 255, 256, 257, 258, 1000, 2047, 2048, maxIndex - 1, maxIndex}

var allNonces = []api.Nonce{
	{},
	{Counter: 1},
	{Counter: 2},
	{Counter: 255},
	{Counter: 256},
	{Counter: 1<<32 - 1},
	{Counter: 1 << 32},
	{Counter: 1 << 63},
	{Counter: maxCounter - 1},
	{Counter: maxCounter},
	{Shard: 1},
	{Shard: 1, Counter: 1},
	{Shard: 1, Counter: 2},
	{Shard: 2, Counter: 1},
	{Shard: 7, Counter: 9},
	{Shard: 256},
	{Shard: 0x01020304, Counter: 0x05060708090a0b0c},
	{Shard: 1 << 31},
	{Shard: maxShard},
	{Shard: maxShard, Counter: maxCounter},
}

// allBlocks returns blocks that differ from each other, some of them from the zero block in a single bit.
func allBlocks() []api.Block {
	l := []api.Block{{}, ones(), ascending(0), ascending(0xe0), {0: 0x80}, {31: 1}, {15: 1}, {16: 1}}
	draw := drawer(9)
	for range 4 {
		l = append(l, drawBlock(draw))
	}
	return l
}

func ones() api.Block { return api.Block(bytes.Repeat([]byte{0xff}, 32)) }

// ascending returns a block, each byte of which is one more than the one before it.
func ascending(first byte) api.Block {
	var b api.Block
	for i := range b {
		b[i] = first + byte(i)
	}
	return b
}

// drawer returns a function whose results are always the same sequence of numbers without a visible rule.
func drawer(seed uint64) func() uint64 {
	return func() uint64 {
		seed += 0x9e3779b97f4a7c15
		z := (seed ^ seed>>30) * 0xbf58476d1ce4e5b9
		z = (z ^ z>>27) * 0x94d049bb133111eb
		return z ^ z>>31
	}
}

func drawBlock(draw func() uint64) api.Block {
	var b api.Block
	for i := range b {
		b[i] = byte(draw() >> 20)
	}
	return b
}

func drawNonce(draw func() uint64) api.Nonce {
	return api.Nonce{Shard: uint32(draw()), Counter: draw()}
}

func drawKeys(draw func() uint64) derives.Keys {
	e := drawBlock(draw)
	return derives.Keys{Enc: [16]byte(e[:16]), Mac: api.Key(drawBlock(draw))}
}

func unhex(t *testing.T, text string) []byte {
	t.Helper()
	b, err := hex.DecodeString(text)
	if err != nil {
		t.Fatalf("%q: %v", text, err)
	}
	return b
}

func block(t *testing.T, text string) api.Block {
	t.Helper()
	return api.Block(unhex(t, text))
}

func digest(t *testing.T, text string) api.Digest {
	t.Helper()
	return api.Digest(unhex(t, text))
}

func keysOf(t *testing.T, x vector) derives.Keys {
	t.Helper()
	return derives.Keys{Enc: [16]byte(unhex(t, x.enc)), Mac: api.Key(unhex(t, x.mac))}
}

// volumeKeys returns the keys of a volume whose master key is a byte and 31 zeros.
func volumeKeys(first byte) derives.Keys { return derives.Volume(api.Key{first}) }

// definition returns the message of a block by the definition, number by number.
func definition(index int, n api.Nonce, data api.Block) []byte {
	var b []byte
	for _, shift := range []int{24, 16, 8, 0} {
		b = append(b, byte(index>>shift))
	}
	for _, shift := range []int{24, 16, 8, 0} {
		b = append(b, byte(n.Shard>>shift))
	}
	for _, shift := range []int{56, 48, 40, 32, 24, 16, 8, 0} {
		b = append(b, byte(n.Counter>>shift))
	}
	return append(b, data[:]...)
}

// stream returns the first 32 bytes of a key stream, block by block.
func stream(key [16]byte, n api.Nonce) api.Block {
	first, second := streams.Block(key, n, 0), streams.Block(key, n, 1)
	return api.Block(slices.Concat(first[:], second[:]))
}

func xor(a, b api.Block) api.Block {
	for i := range a {
		a[i] ^= b[i]
	}
	return a
}

func message(t *testing.T, index int, n api.Nonce, data api.Block) []byte {
	t.Helper()
	b, e := seals.Message(index, n, data)
	if e != api.OK {
		t.Fatalf("Message(%d, %v, %x): error %d", index, n, data, e)
	}
	return b
}

func seal(t *testing.T, k derives.Keys, index int, n api.Nonce, plain api.Block) (api.Block, api.Digest) {
	t.Helper()
	data, tag, e := seals.Seal(k, index, n, plain)
	if e != api.OK {
		t.Fatalf("Seal(k, %d, %v, %x): error %d", index, n, plain, e)
	}
	return data, tag
}

// accept opens a ciphertext, and checks that it is accepted, with that plaintext.
func accept(t *testing.T, k derives.Keys, index int, n api.Nonce, data api.Block, tag api.Digest, want api.Block) {
	t.Helper()
	if got, e := seals.Open(k, index, n, data, tag); got != want || e != api.OK {
		t.Fatalf("Open(k, %d, %v, %x, %x) = %x, %d, want %x", index, n, data, tag, got, e, want)
	}
}

// refuse opens a ciphertext, and checks that there is an error, and nothing else.
func refuse(t *testing.T, k derives.Keys, index int, n api.Nonce, data api.Block, tag api.Digest, want api.Errno) {
	t.Helper()
	if got, e := seals.Open(k, index, n, data, tag); got != (api.Block{}) || e != want {
		t.Fatalf("Open(k, %d, %v, %x, %x) = %x, %d, want nothing and %d", index, n, data, tag, got, e, want)
	}
}

// P9.1: the chapter's example among others.
func TestMessage(t *testing.T) {
	zeros, counted := strings.Repeat("00", 32), "000102030405060708090a0b0c0d0e0f101112131415161718191a1b1c1d1e1f"
	for _, x := range []struct {
		index int
		nonce api.Nonce
		data  string
		want  string
	}{
		{3, api.Nonce{Shard: 1, Counter: 2}, zeros, "00000003" + "00000001" + "0000000000000002"},
		{0, api.Nonce{}, zeros, "00000000" + "00000000" + "0000000000000000"},
		{0, api.Nonce{}, counted, "00000000" + "00000000" + "0000000000000000"},
		{1, api.Nonce{Counter: 1}, counted, "00000001" + "00000000" + "0000000000000001"},
		{258, api.Nonce{Shard: 0x01020304, Counter: 0x05060708090a0b0c}, counted, "00000102" + "01020304" + "05060708090a0b0c"},
		{maxIndex, api.Nonce{Shard: maxShard, Counter: maxCounter}, strings.Repeat("ff", 32), "00000fff" + "ffffffff" + "ffffffffffffffff"},
		{maxIndex - 1, api.Nonce{Shard: maxShard}, zeros, "00000ffe" + "ffffffff" + "0000000000000000"},
		{2048, api.Nonce{Counter: maxCounter}, zeros, "00000800" + "00000000" + "ffffffffffffffff"},
	} {
		if got := message(t, x.index, x.nonce, block(t, x.data)); !bytes.Equal(got, unhex(t, x.want+x.data)) {
			t.Errorf("Message(%d, %v, %s) = %x, want %s", x.index, x.nonce, x.data, got, x.want+x.data)
		}
	}
}

// P9.1: many indices, nonces and ciphertexts, against the definition.
func TestMessageIsThatOfTheDefinition(t *testing.T) {
	for _, index := range goodIndices {
		for _, n := range allNonces {
			for _, data := range allBlocks() {
				if got, want := message(t, index, n, data), definition(index, n, data); !bytes.Equal(got, want) {
					t.Errorf("Message(%d, %v, %x) = %x, want %x", index, n, data, got, want)
				}
			}
		}
	}
}

// P9.1, R4: new memory without spare capacity.
func TestMessageReturnsNewMemory(t *testing.T) {
	data := ascending(1)
	first := message(t, 5, allNonces[3], data)
	if len(first) != 48 || cap(first) != 48 {
		t.Errorf("%d bytes with a capacity of %d", len(first), cap(first))
	}
	second := message(t, 5, allNonces[3], data)
	clear(first)
	if data != ascending(1) || !bytes.Equal(second, definition(5, allNonces[3], data)) {
		t.Error("a change of a message changes something else")
	}
}

// P9.1, R3: with an error there is no message.
func TestMessageOfBadIndices(t *testing.T) {
	for _, index := range badIndices {
		for _, data := range []api.Block{{}, ones()} {
			if got, e := seals.Message(index, allNonces[1], data); len(got) != 0 || e != api.ErrArg {
				t.Errorf("Message(%d, ..) = %x, %d, want ErrArg", index, got, e)
			}
		}
	}
}

type parsed struct {
	index int
	nonce api.Nonce
	data  api.Block
}

func parse(b []byte) (parsed, api.Errno) {
	index, n, data, e := seals.Parse(b)
	return parsed{index, n, data}, e
}

// P9.1, R3: bytes of every length, of which each would have a bad index, a good one or zeros; with an error there is nothing else. Bytes behind the end, in the capacity, do not count.
func TestParseLengths(t *testing.T) {
	lengths := []int{95, 96, 97, 255, 256, 304, 1000, 4096}
	for n := range 61 {
		lengths = append(lengths, n)
	}
	long := make([]byte, 4096)
	for _, first := range [][]byte{{0, 0, 0, 0}, {0, 0, 15, 255, 9, 9, 9}, {0, 0, 16, 0}, {255, 255, 255, 255, 255}, {128, 0, 0, 3}} {
		copy(long, first)
		for _, n := range lengths {
			want := api.OK
			switch {
			case n < 48:
				want = api.ErrShort
			case n > 48:
				want = api.ErrForm
			case first[0] != 0 || first[2] > 15:
				want = api.ErrArg
			}
			for _, b := range [][]byte{long[:n], slices.Clip(long[:n])} {
				if got, e := parse(b); e != want || e != api.OK && got != (parsed{}) {
					t.Errorf("Parse of %d bytes %x ..: %v, %d, want %d", n, first, got, e, want)
				}
			}
		}
	}
	if got, e := parse(nil); got != (parsed{}) || e != api.ErrShort {
		t.Errorf("Parse(nil) = %v, %d", got, e)
	}
}

// P9.1, R3: 48 bytes whose index is none; there is nothing else with the error, whatever the rest is.
func TestParseOfBadIndices(t *testing.T) {
	numbers := []uint32{4096, 4097, 8191, 8192, 65535, 65536, 65539, 1<<24 + 3, 1<<31 - 1, 1 << 31, 1<<31 + 3, math.MaxUint32 - 1, math.MaxUint32}
	for bit := 12; bit < 32; bit++ {
		numbers = append(numbers, 1<<bit, 1<<bit+1, 1<<bit|4095)
	}
	for _, v := range numbers {
		for _, data := range allBlocks() {
			b := definition(0, allNonces[16], data)
			b[0], b[1], b[2], b[3] = byte(v>>24), byte(v>>16), byte(v>>8), byte(v)
			if got, e := parse(b); got != (parsed{}) || e != api.ErrArg {
				t.Errorf("Parse(%x) = %v, %d, want ErrArg", b, got, e)
			}
		}
	}
}

// P9.1: each byte has its place.
func TestParseOfEachByte(t *testing.T) {
	for i := range 48 {
		for _, value := range []byte{1, 0x80, 0xff} {
			var want parsed
			switch {
			case i == 2 && value == 1:
				continue
			case i == 3:
				want.index = int(value)
			case i >= 16:
				want.data[i-16] = value
			case i >= 8:
				want.nonce.Counter = uint64(value) << (8 * (15 - i))
			case i >= 4:
				want.nonce.Shard = uint32(value) << (8 * (7 - i))
			}
			b := make([]byte, 48)
			b[i] = value
			e := api.OK
			if i < 3 {
				e = api.ErrArg
			}
			if got, f := parse(b); got != want || f != e {
				t.Errorf("Parse(%x) = %v, %d, want %v, %d", b, got, f, want, e)
			}
		}
	}
	for value := range byte(16) {
		b := make([]byte, 48)
		b[2] = value
		if got, e := parse(b); got != (parsed{index: 256 * int(value)}) || e != api.OK {
			t.Errorf("Parse(%x) = %v, %d", b, got, e)
		}
	}
}

// P9.1, R4: the bytes stay as they are.
func TestParseKeepsBytes(t *testing.T) {
	for n := range 61 {
		b := make([]byte, n)
		for i := range b {
			b[i] = byte(i) &^ 0xfc
		}
		before := slices.Clone(b)
		parse(b)
		if !bytes.Equal(b, before) {
			t.Errorf("the %d bytes were modified: %x", n, b)
		}
	}
}

// P9.4: Parse inverts Message, for all indices.
func TestParseInvertsMessage(t *testing.T) {
	draw := drawer(1)
	for index := range api.MaxBlocks {
		want := parsed{index, drawNonce(draw), drawBlock(draw)}
		if got, e := parse(message(t, index, want.nonce, want.data)); got != want || e != api.OK {
			t.Errorf("Parse(Message(%v)) = %v, %d", want, got, e)
		}
	}
	for _, n := range allNonces {
		for _, data := range allBlocks() {
			want := parsed{maxIndex, n, data}
			if got, e := parse(message(t, maxIndex, n, data)); got != want || e != api.OK {
				t.Errorf("Parse(Message(%v)) = %v, %d", want, got, e)
			}
		}
	}
}

// P9.1, P9.4: and Message inverts Parse, for all bytes that it accepts.
func TestMessageInvertsParse(t *testing.T) {
	draw := drawer(2)
	for range 2000 {
		first, second := drawBlock(draw), drawBlock(draw)
		b := slices.Concat(first[:], second[:16])
		b[0], b[1], b[2] = 0, 0, b[2]%32
		got, e := parse(b)
		if (e == api.OK) != (b[2] < 16) {
			t.Fatalf("Parse(%x): error %d", b, e)
		}
		if e == api.OK && !bytes.Equal(message(t, got.index, got.nonce, got.data), b) {
			t.Fatalf("Message of what Parse(%x) returns is another one", b)
		}
	}
}

// P9.4: messages of different indices, nonces or ciphertexts are different.
func TestMessagesAreDifferent(t *testing.T) {
	seen := map[string]parsed{}
	for _, index := range goodIndices {
		for _, n := range allNonces {
			for _, data := range allBlocks() {
				text := string(message(t, index, n, data))
				if other, ok := seen[text]; ok {
					t.Errorf("%v has the message of %v", parsed{index, n, data}, other)
				}
				seen[text] = parsed{index, n, data}
			}
		}
	}
}

// P9.2: values of other programs.
func TestSeal(t *testing.T) {
	for _, x := range vectors {
		data, tag := seal(t, keysOf(t, x), x.index, x.nonce, block(t, x.plain))
		if data != block(t, x.data) || tag != digest(t, x.tag) {
			t.Errorf("Seal(%s, %s, %d, %v, %s) = %x, %x, want %s, %s", x.enc, x.mac, x.index, x.nonce, x.plain, data, tag, x.data, x.tag)
		}
	}
}

// P9.2, P9.3: the chapter's examples.
func TestExamples(t *testing.T) {
	k, n := derives.Volume(api.Key{}), api.Nonce{Shard: 1, Counter: 2}
	if x := vectors[0]; k != keysOf(t, x) || n != x.nonce || x.index != 3 || block(t, x.plain) != (api.Block{}) {
		t.Fatalf("the first vector is not the chapter's example: %v", x)
	}
	data, tag := seal(t, k, 3, n, api.Block{})
	if want := stream(k.Enc, n); data != want {
		t.Errorf("the ciphertext of zeros is %x, want %x", data, want)
	}
	accept(t, k, 3, n, data, tag, api.Block{})
	refuse(t, k, 4, n, data, tag, api.ErrIntegrity)
	if data, tag, e := seals.Seal(k, -1, n, api.Block{}); data != (api.Block{}) || tag != (api.Digest{}) || e != api.ErrArg {
		t.Errorf("Seal(k, -1, ..) = %x, %x, %d", data, tag, e)
	}
	if b, e := seals.Message(4096, n, api.Block{}); len(b) != 0 || e != api.ErrArg {
		t.Errorf("Message(4096, ..) = %x, %d", b, e)
	}
	if got, e := parse(make([]byte, 47)); got != (parsed{}) || e != api.ErrShort {
		t.Errorf("Parse of 47 bytes = %v, %d", got, e)
	}
}

// P9.2: the ciphertext is the exclusive or of the plaintext with the beginning of the key stream of the key Enc, and the tag is that of the message of the ciphertext with the key Mac.
func TestSealIsThatOfTheDefinition(t *testing.T) {
	draw := drawer(3)
	for _, k := range []derives.Keys{{}, volumeKeys(0), volumeKeys(7), drawKeys(draw)} {
		for _, n := range allNonces {
			for _, plain := range allBlocks() {
				index := int(draw() % api.MaxBlocks)
				data, tag := seal(t, k, index, n, plain)
				if want := xor(plain, stream(k.Enc, n)); data != want {
					t.Errorf("Seal(k, %d, %v, %x): the ciphertext %x, want %x", index, n, plain, data, want)
				}
				if want := macs.Of(k.Mac[:], definition(index, n, data)); tag != want {
					t.Errorf("Seal(k, %d, %v, %x): the tag %x, want %x", index, n, plain, tag, want)
				}
			}
		}
	}
}

// P9.2: the ciphertext does not depend on the index or on the key Mac; the tag depends on all of them.
func TestWhatSealDependsOn(t *testing.T) {
	k, n, plain := volumeKeys(1), allNonces[12], ascending(5)
	data, tag := seal(t, k, 9, n, plain)
	otherMac, otherEnc := k, k
	otherMac.Mac[31] ^= 1
	otherEnc.Enc[15] ^= 1
	for _, x := range []struct {
		name     string
		keys     derives.Keys
		index    int
		nonce    api.Nonce
		plain    api.Block
		sameData bool
	}{
		{"index", k, 8, n, plain, true},
		{"key Mac", otherMac, 9, n, plain, true},
		{"key Enc", otherEnc, 9, n, plain, false},
		{"shard", k, 9, api.Nonce{Shard: n.Shard + 1, Counter: n.Counter}, plain, false},
		{"counter", k, 9, api.Nonce{Shard: n.Shard, Counter: n.Counter + 1}, plain, false},
		{"plaintext", k, 9, n, ascending(6), false},
	} {
		otherData, otherTag := seal(t, x.keys, x.index, x.nonce, x.plain)
		if (otherData == data) != x.sameData || otherTag == tag {
			t.Errorf("another %s: the ciphertexts %x and %x, the tags %x and %x", x.name, data, otherData, tag, otherTag)
		}
	}
}

// P9.2, R3: with an error there is no ciphertext and no tag.
func TestSealOfBadIndices(t *testing.T) {
	for _, index := range badIndices {
		for _, plain := range []api.Block{{}, ascending(1)} {
			data, tag, e := seals.Seal(volumeKeys(1), index, allNonces[1], plain)
			if data != (api.Block{}) || tag != (api.Digest{}) || e != api.ErrArg {
				t.Errorf("Seal(k, %d, ..) = %x, %x, %d, want ErrArg", index, data, tag, e)
			}
		}
	}
}

// P9.3: values of other programs.
func TestOpen(t *testing.T) {
	for _, x := range vectors {
		accept(t, keysOf(t, x), x.index, x.nonce, block(t, x.data), digest(t, x.tag), block(t, x.plain))
	}
}

// P9.4: Open inverts Seal, for all indices, and for special nonces and blocks.
func TestOpenInvertsSeal(t *testing.T) {
	draw := drawer(4)
	for index := range api.MaxBlocks {
		n, plain := drawNonce(draw), drawBlock(draw)
		k := volumeKeys(byte(index))
		data, tag := seal(t, k, index, n, plain)
		accept(t, k, index, n, data, tag, plain)
	}
	for _, index := range []int{0, maxIndex} {
		for _, n := range allNonces {
			for _, plain := range allBlocks() {
				data, tag := seal(t, derives.Keys{}, index, n, plain)
				accept(t, derives.Keys{}, index, n, data, tag, plain)
			}
		}
	}
}

// P9.4: ciphertexts that nobody sealed, with the tags of their messages: sealing what Open returns returns both.
func TestAcceptedIsSealed(t *testing.T) {
	draw := drawer(5)
	for range 300 {
		k, index, n := drawKeys(draw), int(draw()%api.MaxBlocks), drawNonce(draw)
		data := drawBlock(draw)
		tag := macs.Of(k.Mac[:], definition(index, n, data))
		plain, e := seals.Open(k, index, n, data, tag)
		if e != api.OK || plain != xor(data, stream(k.Enc, n)) {
			t.Fatalf("Open(k, %d, %v, %x, its tag) = %x, %d", index, n, data, plain, e)
		}
		if again, sealed := seal(t, k, index, n, plain); again != data || sealed != tag {
			t.Fatalf("Open returns %x for %x and %x, which is sealed to %x and %x", plain, data, tag, again, sealed)
		}
	}
}

// P9.3: a tag with one bit changed, or with one byte set to anything else.
func TestOpenWithChangedTag(t *testing.T) {
	for i, plain := range allBlocks()[:4] {
		k, n := volumeKeys(byte(i)), allNonces[3*i]
		data, tag := seal(t, k, 7, n, plain)
		for bit := range 256 {
			changed := tag
			changed[bit/8] ^= 1 << (bit % 8)
			refuse(t, k, 7, n, data, changed, api.ErrIntegrity)
		}
		for at := range tag {
			changed := tag
			changed[at] = ^changed[at]
			refuse(t, k, 7, n, data, changed, api.ErrIntegrity)
		}
		accept(t, k, 7, n, data, tag, plain)
	}
}

// P9.3: tags of something that is not the message: zeros, ones, a rotated tag, tags of other strings and with other keys.
func TestOpenWithTagsOfSomethingElse(t *testing.T) {
	k, index, n, plain := volumeKeys(1), 258, allNonces[16], ascending(3)
	data, tag := seal(t, k, index, n, plain)
	m := definition(index, n, data)
	rotated := api.Digest(slices.Concat(tag[1:], tag[:1]))
	for i, other := range []api.Digest{
		{},
		api.Digest(ones()),
		api.Digest(data),
		api.Digest(plain),
		api.Digest(k.Mac),
		rotated,
		macs.Of(k.Mac[:]),
		macs.Of(k.Mac[:], data[:]),
		macs.Of(k.Mac[:], m[:16]),
		macs.Of(k.Mac[:], m[:47]),
		macs.Of(k.Mac[:], m[4:]),
		macs.Of(k.Mac[:], m[:4], m[16:]),
		macs.Of(k.Mac[:], m[4:16], m[:4], m[16:]),
		macs.Of(k.Mac[:], m[:4], m[16:], m[4:16]),
		macs.Of(k.Mac[:], m, []byte{0}),
		macs.Of(k.Mac[:], definition(index, n, plain)),
		macs.Of(k.Enc[:], m),
		macs.Of(k.Mac[:16], m),
		macs.Of(nil, m),
	} {
		if got, e := seals.Open(k, index, n, data, other); got != (api.Block{}) || e != api.ErrIntegrity {
			t.Errorf("tag %d, %x: Open returns %x, %d", i, other, got, e)
		}
	}
	accept(t, k, index, n, data, tag, plain)
}

// P9.3, P9.4: a ciphertext with one bit changed, with the tag of the one that was sealed.
func TestOpenOfChangedCiphertext(t *testing.T) {
	k, n := volumeKeys(2), allNonces[11]
	data, tag := seal(t, k, maxIndex, n, ascending(9))
	for bit := range 256 {
		changed := data
		changed[bit/8] ^= 1 << (bit % 8)
		refuse(t, k, maxIndex, n, changed, tag, api.ErrIntegrity)
	}
	refuse(t, k, maxIndex, n, ascending(9), tag, api.ErrIntegrity)
	other, otherTag := seal(t, k, maxIndex, n, ascending(10))
	refuse(t, k, maxIndex, n, data, otherTag, api.ErrIntegrity)
	refuse(t, k, maxIndex, n, other, tag, api.ErrIntegrity)
	accept(t, k, maxIndex, n, other, otherTag, ascending(10))
}

// P9.3, P9.4: a ciphertext at every other index.
func TestOpenAtAnotherIndex(t *testing.T) {
	k, n := volumeKeys(3), allNonces[14]
	for _, index := range []int{0, 1, 1234, maxIndex} {
		data, tag := seal(t, k, index, n, ascending(1))
		for other := range api.MaxBlocks {
			if other != index {
				refuse(t, k, other, n, data, tag, api.ErrIntegrity)
			}
		}
		accept(t, k, index, n, data, tag, ascending(1))
	}
}

// P9.3, P9.4: a nonce with one bit changed, and others.
func TestOpenWithAnotherNonce(t *testing.T) {
	k := volumeKeys(4)
	for i, n := range allNonces {
		data, tag := seal(t, k, 77, n, ascending(2))
		for bit := range 32 {
			refuse(t, k, 77, api.Nonce{Shard: n.Shard ^ 1<<bit, Counter: n.Counter}, data, tag, api.ErrIntegrity)
		}
		for bit := range 64 {
			refuse(t, k, 77, api.Nonce{Shard: n.Shard, Counter: n.Counter ^ 1<<bit}, data, tag, api.ErrIntegrity)
		}
		for j, other := range allNonces {
			if i != j {
				refuse(t, k, 77, other, data, tag, api.ErrIntegrity)
			}
		}
	}
}

// P9.3: another key Mac, by one bit, refuses the tag. The tag does not depend on the key Enc, so with another one the ciphertext is accepted, for another plaintext.
func TestOpenWithOtherKeys(t *testing.T) {
	k, n, plain := volumeKeys(5), allNonces[15], ascending(4)
	data, tag := seal(t, k, 77, n, plain)
	for bit := range 256 {
		other := k
		other.Mac[bit/8] ^= 1 << (bit % 8)
		refuse(t, other, 77, n, data, tag, api.ErrIntegrity)
	}
	for bit := range 128 {
		other := k
		other.Enc[bit/8] ^= 1 << (bit % 8)
		accept(t, other, 77, n, data, tag, xor(data, stream(other.Enc, n)))
		if got, _ := seals.Open(other, 77, n, data, tag); got == plain {
			t.Errorf("the bit %d of the key Enc does not matter", bit)
		}
	}
	for first := range 20 {
		if first != 5 {
			refuse(t, volumeKeys(byte(first)), 77, n, data, tag, api.ErrIntegrity)
		}
	}
	refuse(t, derives.Keys{}, 77, n, data, tag, api.ErrIntegrity)
	refuse(t, derives.Keys{Enc: k.Enc}, 77, n, data, tag, api.ErrIntegrity)
}

// P9.3, R2, R3: a bad index is ErrArg, whether the tag is that of a message with these bytes as its index, or another one.
func TestOpenOfBadIndices(t *testing.T) {
	k, n := volumeKeys(6), allNonces[2]
	data, tag := seal(t, k, 3, n, ascending(8))
	for _, index := range badIndices {
		own := macs.Of(k.Mac[:], definition(index, n, data))
		for _, x := range []api.Digest{tag, own, {}, api.Digest(ones())} {
			refuse(t, k, index, n, data, x, api.ErrArg)
		}
	}
}

// P9.1 to P9.3: a result does not depend on the calls before, or on those at the same time.
func TestCallsAreIndependent(t *testing.T) {
	type results struct {
		message string
		data    api.Block
		tag     api.Digest
		plain   api.Block
		refused api.Errno
	}
	work := func(i int) results {
		k, index, n, plain := volumeKeys(byte(i%5)), 60*i, allNonces[i%len(allNonces)], ascending(byte(i))
		var r results
		r.data, r.tag, _ = seals.Seal(k, index, n, plain)
		m, _ := seals.Message(index, n, r.data)
		r.message = hex.EncodeToString(m)
		r.plain, _ = seals.Open(k, index, n, r.data, r.tag)
		_, r.refused = seals.Open(k, index+1, n, r.data, r.tag)
		return r
	}
	var first, again [64]results
	for i := range first {
		first[i] = work(i)
	}
	var group sync.WaitGroup
	for i := range again {
		group.Add(1)
		go func() {
			defer group.Done()
			again[63-i] = work(63 - i)
		}()
	}
	group.Wait()
	for i := range first {
		if first[i] != again[i] || first[i].plain != ascending(byte(i)) || first[i].refused != api.ErrIntegrity {
			t.Errorf("the calls %d returned %v and %v", i, first[i], again[i])
		}
	}
}
