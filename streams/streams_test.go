package streams_test

import (
	"bytes"
	"encoding/hex"
	"math"
	"slices"
	"sync"
	"testing"

	"caisson/api"
	"caisson/ciphers"
	"caisson/digests"
	"caisson/streams"
	"caisson/words"
)

// The keys of SP 800-38A and of FIPS 197, and those of equal bits.
const (
	specialKey = "2b7e151628aed2a6abf7158809cf4f3c"
	countedKey = "000102030405060708090a0b0c0d0e0f"
	zeroKey    = "00000000000000000000000000000000"
	onesKey    = "ffffffffffffffffffffffffffffffff"
)

var (
	zeroNonce     = api.Nonce{}
	smallNonce    = api.Nonce{Shard: 1, Counter: 2}
	specialNonce  = api.Nonce{Shard: 0xf0f1f2f3, Counter: 0xf4f5f6f7f8f9fafb} // of SP 800-38A
	greatestNonce = api.Nonce{Shard: math.MaxUint32, Counter: math.MaxUint64}
)

type blockExample struct {
	key     string
	nonce   api.Nonce
	counter uint32
	block   string
}

// The output blocks of SP 800-38A (F.5.1), the first of which is the chapter's.
var special = []string{
	"ec8cdf7398607cb0f2d21675ea9ea1e4",
	"362b7c3c6773516318a077d7fc5073ae",
	"6a2cc3787889374fbeb4c81b17ba6c44",
	"e89c399ff0f198c6d40a31db156cabfe",
}

// Blocks of key streams, as another program (OpenSSL) computes them.
var blocks = []blockExample{
	{specialKey, zeroNonce, 0, "7df76b0c1ab899b33e42f047b91b546f"},
	{specialKey, zeroNonce, 1, "57127d4034b1bebfaef466b9c7726fc6"},
	{specialKey, smallNonce, 0, "b73c7022cc9ec1203077bc2593e0a01f"},
	{specialKey, smallNonce, 1, "f1cb2db4460fea1b59f32f8fae11530a"},
	{specialKey, smallNonce, 255, "b88a2c9397f8b6254d97de6977903d35"},
	{specialKey, smallNonce, 256, "a0b46fd8a011b417a4c070537c797c84"},
	{specialKey, smallNonce, 65535, "c39b414e38c758b46660a8425599f6d4"},
	{specialKey, smallNonce, 65536, "9255914f8445fe70896564839633806e"},
	{specialKey, smallNonce, 0x80000000, "95adbb66ef3e3eda870a9bdf1e13caac"},
	{specialKey, smallNonce, 0xfffffffe, "8a79b61c166b4edd49f53d6c5f2c6537"},
	{specialKey, smallNonce, 0xffffffff, "8b197cddcf092efb9ac3914fb598584e"},
	{specialKey, specialNonce, 0, "492491535998fa241efbcb031abe0667"},
	{specialKey, specialNonce, 1, "434196253bd95a3e346ebc766815af39"},
	{specialKey, greatestNonce, 0, "597d5761063d8bad232cb0136888aabb"},
	{specialKey, greatestNonce, 1, "90b8cf63f44412ceee802a522ab65663"},
	{specialKey, greatestNonce, 255, "d0626f395db5a25ccbfeca8a39e5204e"},
	{specialKey, greatestNonce, 256, "49959e78fee1b8d4a532b0756b40e4ce"},
	{specialKey, greatestNonce, 65535, "a3017c4715f16ff274deb897207ea873"},
	{specialKey, greatestNonce, 65536, "9134e712b34636c7668a1cdf057b08f7"},
	{specialKey, greatestNonce, 0x80000000, "9720afd4239aec3da7fc0aa77a8b74db"},
	{specialKey, greatestNonce, 0xfffffffe, "d1b714b6fbf5fff1289aee2a4c4eeda3"},
	{specialKey, greatestNonce, 0xffffffff, "8af2860142f786f409307c1a3f7eaaac"},
	{zeroKey, zeroNonce, 0, "66e94bd4ef8a2c3b884cfa59ca342b2e"},
	{zeroKey, zeroNonce, 1, "58e2fccefa7e3061367f1d57a4e7455a"},
	{zeroKey, zeroNonce, 255, "f70ddef93ba62588242a0e67d0d645e0"},
	{zeroKey, zeroNonce, 256, "fb56cc09b680b1d07c5a52149e29f07c"},
	{zeroKey, zeroNonce, 65535, "90d4af3471b958d79c38285110dfb453"},
	{zeroKey, zeroNonce, 65536, "e1e223c4cf90cc5d195b370d65114622"},
	{zeroKey, zeroNonce, 0x80000000, "3423d8efc31fa2f4c365c77d8f3b5c63"},
	{zeroKey, zeroNonce, 0xfffffffe, "2bdcf387424732cbef019d2bc2c03743"},
	{zeroKey, zeroNonce, 0xffffffff, "28c16380c491088ca019f8a76853b1e8"},
	{zeroKey, smallNonce, 0, "28c303e7fd3d7aa61847117a186efe4e"},
	{zeroKey, smallNonce, 1, "cff0a3bf9815f7ff03b9f794d5d52b7e"},
	{zeroKey, specialNonce, 0, "2ad5e4ed02849870d9ca61468a5fb79e"},
	{zeroKey, specialNonce, 1, "d71051ae3083c1fcff57cbf2b7ea38e9"},
	{zeroKey, greatestNonce, 0, "123c1f4af313ad8c2ce648b2e71fb6e1"},
	{zeroKey, greatestNonce, 1, "b06abf6199006d5a416099f1f31ef25f"},
	{countedKey, zeroNonce, 0, "c6a13b37878f5b826f4f8162a1c8d879"},
	{countedKey, zeroNonce, 1, "7346139595c0b41e497bbde365f42d0a"},
	{countedKey, smallNonce, 0, "292d787533c21c590a7c2f060f0f0731"},
	{countedKey, smallNonce, 1, "9913c2076cb6f2ee653fcecb36d41ceb"},
	{countedKey, specialNonce, 0, "6a1c9d0a71983f25d8e7215fbc10f720"},
	{countedKey, specialNonce, 1, "d2774959290579969a7a7893db294623"},
	{countedKey, greatestNonce, 0, "ff055937756cadce6974ed4b8c987dae"},
	{countedKey, greatestNonce, 1, "c2819b7a461473723485156496edb8b9"},
	{onesKey, zeroNonce, 0, "a1f6258c877d5fcd8964484538bfc92c"},
	{onesKey, zeroNonce, 1, "5c9fb551ac5c263fafb1df78b066ed02"},
	{onesKey, smallNonce, 0, "b1c50d0fa27bf0ea5edbeba0744d6eca"},
	{onesKey, smallNonce, 1, "384ad5e9cd2da57e850a51643ff03c54"},
	{onesKey, specialNonce, 0, "b7b37367c1bc2c7f2db115ebe3a626d3"},
	{onesKey, specialNonce, 1, "f3487e944ee7650bddb7711ded945cd9"},
	{onesKey, greatestNonce, 0, "d5871d3852aac17236881d696be4ee92"},
	{onesKey, greatestNonce, 1, "fe28e0f98cdd21c2f359195525f3fca0"},
}

type streamExample struct {
	key        string
	nonce      api.Nonce
	from, size int
	want       string
}

// The exclusive or of pattern(size) and a key stream from an offset on, as other programs (OpenSSL, Python) compute it.
var pieces = []streamExample{
	{specialKey, smallNonce, 0, 1, "b7"},
	{specialKey, smallNonce, 0, 15, "b73d7221c89bc727387eb62e9fedae"},
	{specialKey, smallNonce, 0, 16, "b73d7221c89bc727387eb62e9fedae10"},
	{specialKey, smallNonce, 0, 17, "b73d7221c89bc727387eb62e9fedae10e1"},
	{specialKey, smallNonce, 0, 31, "b73d7221c89bc727387eb62e9fedae10e1da3fa7521afc0c41ea3594b20c4d"},
	{specialKey, smallNonce, 0, 32, "b73d7221c89bc727387eb62e9fedae10e1da3fa7521afc0c41ea3594b20c4d15"},
	{specialKey, smallNonce, 0, 33, "b73d7221c89bc727387eb62e9fedae10e1da3fa7521afc0c41ea3594b20c4d15dd"},
	{specialKey, smallNonce, 1, 1, "3c"},
	{specialKey, smallNonce, 1, 15, "3c7120cf9ac426377fb52f98ecad11"},
	{specialKey, smallNonce, 1, 16, "3c7120cf9ac426377fb52f98ecad11fe"},
	{specialKey, smallNonce, 7, 9, "203175bf2196e6a717"},
	{specialKey, smallNonce, 7, 10, "203175bf2196e6a717f8"},
	{specialKey, smallNonce, 15, 1, "1f"},
	{specialKey, smallNonce, 15, 2, "1ff0"},
	{specialKey, smallNonce, 15, 18, "1ff0c92eb04309ed1350f92483a31f5c1aec"},
	{specialKey, smallNonce, 16, 1, "f1"},
	{specialKey, smallNonce, 16, 16, "f1ca2fb7420aec1c51fa2584a21c5d05"},
	{specialKey, smallNonce, 16, 17, "f1ca2fb7420aec1c51fa2584a21c5d05ed"},
	{specialKey, smallNonce, 31, 2, "0afc"},
	{specialKey, smallNonce, 255, 2, "f25f"},
	{specialKey, smallNonce, 4095, 2, "35a1"},
	{specialKey, smallNonce, 4096, 16, "a0b56ddba414b210acc97a587074728b"},
	{specialKey, smallNonce, 65535, 33, "864985f9233bdf9374c4335014224db22a221888d36e0c4cc78e8569db185a92b9"},
	{specialKey, smallNonce, 1048544, 32, "d27159107bbd645382f36f7b1caa4c26d38a535d2cd24ea37e79b2594984e8cb"},
	{specialKey, smallNonce, 1048559, 17, "29c299424a3dc15fbc6f6aa34e5897f9c4"},
	{specialKey, smallNonce, 1048560, 16, "c39a434d3cc25eb36e69a2495994f8db"},
	{specialKey, smallNonce, 1048575, 1, "d4"},
	{countedKey, specialNonce, 0, 1, "6a"},
	{countedKey, specialNonce, 0, 15, "6a1d9f09759d3922d0ee2b54b01df9"},
	{countedKey, specialNonce, 0, 16, "6a1d9f09759d3922d0ee2b54b01df92f"},
	{countedKey, specialNonce, 0, 17, "6a1d9f09759d3922d0ee2b54b01df92fc2"},
	{countedKey, specialNonce, 0, 31, "6a1d9f09759d3922d0ee2b54b01df92fc2665b4a3d106f8182636288c73458"},
	{countedKey, specialNonce, 0, 32, "6a1d9f09759d3922d0ee2b54b01df92fc2665b4a3d106f8182636288c734583c"},
	{countedKey, specialNonce, 0, 33, "6a1d9f09759d3922d0ee2b54b01df92fc2665b4a3d106f8182636288c734583c31"},
	{countedKey, specialNonce, 1, 1, "1c"},
	{countedKey, specialNonce, 1, 15, "1c9c08729c3a23dfef2855b71cfa2e"},
	{countedKey, specialNonce, 1, 16, "1c9c08729c3a23dfef2855b71cfa2edd"},
	{countedKey, specialNonce, 7, 9, "25d9e5225bb916f028"},
	{countedKey, specialNonce, 7, 10, "25d9e5225bb916f028db"},
	{countedKey, specialNonce, 15, 1, "20"},
	{countedKey, specialNonce, 15, 2, "20d3"},
	{countedKey, specialNonce, 15, 18, "20d3754a5d2c037e9e9370739fd627493300"},
	{countedKey, specialNonce, 16, 1, "d2"},
	{countedKey, specialNonce, 16, 16, "d2764b5a2d007f9192737298d724482c"},
	{countedKey, specialNonce, 16, 17, "d2764b5a2d007f9192737298d724482c01"},
	{countedKey, specialNonce, 31, 2, "2310"},
	{countedKey, specialNonce, 255, 2, "f3aa"},
	{countedKey, specialNonce, 4095, 2, "9d5e"},
	{countedKey, specialNonce, 4096, 16, "5f603b3f3f2523bd3993ed34d161d035"},
	{countedKey, specialNonce, 65535, 33, "998ebd15841956aa86cbfb0c6a7b0a83ba566018d27ab3ecb0fea14ba7276c26cd"},
	{countedKey, specialNonce, 1048544, 32, "5556da1a322a6aeec731ea760ef8f11b69d43f576e2ee6724754a86bda0a3e81"},
	{countedKey, specialNonce, 1048559, 17, "1478c72e407f3df76d5647b97ccb192f8e"},
	{countedKey, specialNonce, 1048560, 16, "79c42f477e3ef6625744b87bca1a2e91"},
	{countedKey, specialNonce, 1048575, 1, "9e"},
}

// The digests of the exclusive or of pattern(size) and a key stream from an offset on, as other programs (OpenSSL, Python) compute it.
var longPieces = []streamExample{
	{specialKey, smallNonce, 0, 1000, "837869ef4ba02583e7e93c51ad75a8a10e62e98dccb0db67157806ed7e9fe962"},
	{specialKey, smallNonce, 100, 1000, "5000efede788cb61d8d8b21bbf0548fb41b8c87e79e17c4886206594ddcba715"},
	{specialKey, smallNonce, 524287, 65537, "3c55f84cc53d1e46832ec80198fc0ec089a35eb4c246c4a9df0dd4b90ab955be"},
	{specialKey, smallNonce, 1, 1048575, "0a659448fca016c8afc2cb4436067bfe1b6f70aed9472046ba41104c051053c5"},
	{specialKey, smallNonce, 5, 1048566, "4827873d32df7a16c2c6fd42bdfef1fb9a10d816b8671760204a19f6eac4178f"},
	{specialKey, smallNonce, 0, 1048576, "7f30055b4650ceaaa847f111bac129901ff40ee0cec6b338037d2b0f5546d406"},
	{countedKey, specialNonce, 0, 1000, "96b5b636f4d9079a7f51e1f8e5f9321f06aa06ce452dcbab71ff62fbec37b250"},
	{countedKey, specialNonce, 100, 1000, "ca9f2a0309e706ba2d510f6fa06666c52818ed63d0130391f36d48735d5313e6"},
	{countedKey, specialNonce, 524287, 65537, "4af1bc32522e5c9be2195b03dae84645251a8ad447a7b1dc46160e175ea7c401"},
	{countedKey, specialNonce, 0, 1048576, "4fbdc8086748fc7df5e460b585c49888fd1769450ca1d63c5b76a17447fc9654"},
}

// call is a piece of a key stream, and the error that Xor and Used return for it.
type call struct {
	from, size int
	e          api.Errno // of Used
}

// Offsets and sizes around those that are refused. The sizes are those of data that a test can make.
var limits = []call{
	{0, 0, api.ErrEmpty},
	{0, 1, api.OK},
	{0, streams.MaxStream - 1, api.OK},
	{0, streams.MaxStream, api.OK},
	{0, streams.MaxStream + 1, api.ErrLimit},
	{1, streams.MaxStream - 2, api.OK},
	{1, streams.MaxStream - 1, api.OK},
	{1, streams.MaxStream, api.ErrLimit},
	{streams.MaxStream / 2, streams.MaxStream / 2, api.OK},
	{streams.MaxStream / 2, streams.MaxStream/2 + 1, api.ErrLimit},
	{streams.MaxStream/2 + 1, streams.MaxStream / 2, api.ErrLimit},
	{streams.MaxStream - 32, 32, api.OK},
	{streams.MaxStream - 32, 33, api.ErrLimit},
	{streams.MaxStream - 1, 0, api.ErrEmpty},
	{streams.MaxStream - 1, 1, api.OK},
	{streams.MaxStream - 1, 2, api.ErrLimit},
	{streams.MaxStream, 0, api.ErrEmpty},
	{streams.MaxStream, 1, api.ErrLimit},
	{streams.MaxStream, streams.MaxStream, api.ErrLimit},
	{streams.MaxStream + 1, 0, api.ErrLimit},
	{streams.MaxStream + 1, 1, api.ErrLimit},
	{2 * streams.MaxStream, 0, api.ErrLimit},
	{math.MaxInt32, 0, api.ErrLimit},
	{math.MaxInt32, 1, api.ErrLimit},
	{math.MaxInt - streams.MaxStream, streams.MaxStream, api.ErrLimit},
	{math.MaxInt - 1, 2, api.ErrLimit},
	{math.MaxInt, 0, api.ErrLimit},
	{math.MaxInt, 1, api.ErrLimit},
	{math.MaxInt, streams.MaxStream + 1, api.ErrLimit},
	{-1, 0, api.ErrArg},
	{-1, 1, api.ErrArg},
	{-1, 2, api.ErrArg},
	{-1, 17, api.ErrArg},
	{-16, 16, api.ErrArg},
	{-1, streams.MaxStream, api.ErrArg},
	{-1, streams.MaxStream + 1, api.ErrArg},
	{-1, streams.MaxStream + 2, api.ErrArg},
	{-streams.MaxStream, streams.MaxStream, api.ErrArg},
	{math.MinInt32, 1, api.ErrArg},
	{math.MinInt + 1, 1, api.ErrArg},
	{math.MinInt, 0, api.ErrArg},
	{math.MinInt, 1, api.ErrArg},
	{math.MinInt, streams.MaxStream + 1, api.ErrArg},
}

// Offsets and sizes that no data has, or that are too many bytes for a test.
var sizeLimits = []call{
	{0, -1, api.ErrArg},
	{0, math.MinInt, api.ErrArg},
	{5, -5, api.ErrArg},
	{17, -1, api.ErrArg},
	{streams.MaxStream, -1, api.ErrArg},
	{streams.MaxStream + 1, -1, api.ErrArg},
	{2 * streams.MaxStream, -streams.MaxStream, api.ErrArg},
	{math.MaxInt, -1, api.ErrArg},
	{math.MaxInt, math.MinInt, api.ErrArg},
	{-1, -1, api.ErrArg},
	{math.MinInt, -1, api.ErrArg},
	{math.MinInt, math.MinInt, api.ErrArg},
	{-1, math.MaxInt, api.ErrArg},
	{math.MinInt, math.MaxInt, api.ErrArg},
	{0, math.MaxInt32, api.ErrLimit},
	{0, math.MaxInt, api.ErrLimit},
	{1, math.MaxInt, api.ErrLimit},
	{17, math.MaxInt - 16, api.ErrLimit},
	{streams.MaxStream, math.MaxInt, api.ErrLimit},
	{streams.MaxStream, math.MaxInt - streams.MaxStream + 1, api.ErrLimit},
	{streams.MaxStream + 1, math.MaxInt, api.ErrLimit},
	{math.MaxInt, math.MaxInt, api.ErrLimit},
}

// block returns 16 bytes that are written in hexadecimal.
func block(t *testing.T, text string) [16]byte {
	t.Helper()
	b, err := hex.DecodeString(text)
	if err != nil || len(b) != 16 {
		t.Fatalf("%s are not 16 bytes", text)
	}
	return [16]byte(b)
}

// pattern returns n bytes whose period fits no block.
func pattern(n int) []byte {
	b := make([]byte, n)
	for i := range b {
		b[i] = byte(i % 251)
	}
	return b
}

func xor(t *testing.T, key [16]byte, n api.Nonce, from int, data []byte) []byte {
	t.Helper()
	x, e := streams.Xor(key, n, from, data)
	if e != api.OK {
		t.Fatalf("Xor of %d bytes from %d on: error %d", len(data), from, e)
	}
	if len(x) != len(data) {
		t.Fatalf("Xor of %d bytes from %d on has %d bytes", len(data), from, len(x))
	}
	return x
}

// reference returns the first bytes of a key stream, as the definition says, from the round keys on.
func reference(key [16]byte, n api.Nonce, size int) []byte {
	s := ciphers.Expand(key)
	var stream []byte
	for counter := uint32(0); len(stream) < size; counter++ {
		b := [16]byte{
			byte(n.Shard >> 24), byte(n.Shard >> 16), byte(n.Shard >> 8), byte(n.Shard),
			byte(n.Counter >> 56), byte(n.Counter >> 48), byte(n.Counter >> 40), byte(n.Counter >> 32),
			byte(n.Counter >> 24), byte(n.Counter >> 16), byte(n.Counter >> 8), byte(n.Counter),
			byte(counter >> 24), byte(counter >> 16), byte(counter >> 8), byte(counter),
		}
		e := s.Encrypt(b)
		stream = append(stream, e[:]...)
	}
	return stream[:size]
}

// counters returns the least and the greatest counter of the bytes of a piece, byte by byte.
func counters(from, size int) (first, last uint32) {
	first = math.MaxUint32
	for i := range size {
		counter := uint32((from + i) / 16)
		first, last = min(first, counter), max(last, counter)
	}
	return first, last
}

// P7.1: the output blocks of SP 800-38A (F.5.1); the first one is the chapter's example.
func TestBlockSpecial(t *testing.T) {
	for i, want := range special {
		counter := uint32(0xfcfdfeff) + uint32(i)
		if got := streams.Block(block(t, specialKey), specialNonce, counter); got != block(t, want) {
			t.Errorf("counter %x: %x, want %s", counter, got, want)
		}
	}
}

// P7.1: ordinary counters, 0, 1, those around the ends of bytes and the greatest one, with several keys and nonces.
func TestBlock(t *testing.T) {
	for _, x := range blocks {
		if got := streams.Block(block(t, x.key), x.nonce, x.counter); got != block(t, x.block) {
			t.Errorf("key %s, nonce %v, counter %d: %x, want %s", x.key, x.nonce, x.counter, got, x.block)
		}
	}
}

// P7.1: what is encrypted is the nonce and the counter, each byte in its place.
func TestCounterBlock(t *testing.T) {
	key := block(t, countedKey)
	s := ciphers.Expand(key)
	for i := range 16 {
		for _, value := range []byte{0x01, 0x80, 0xff} {
			var want [16]byte
			want[i] = value
			shard, _ := words.Get32(want[:4])
			count, _ := words.Get64(want[4:12])
			counter, _ := words.Get32(want[12:])
			got := s.Decrypt(streams.Block(key, api.Nonce{Shard: shard, Counter: count}, counter))
			if got != want {
				t.Errorf("shard %x, counter %x, counter of the block %x: encrypted was %x, want %x", shard, count, counter, got, want)
			}
		}
	}
	want := [16]byte{1, 2, 3, 4, 5, 6, 7, 8, 9, 10, 11, 12, 13, 14, 15, 16}
	got := s.Decrypt(streams.Block(key, api.Nonce{Shard: 0x01020304, Counter: 0x05060708090a0b0c}, 0x0d0e0f10))
	if got != want {
		t.Errorf("encrypted was %x, want %x", got, want)
	}
}

// P7.1: blocks of different counters and nonces are different (they are encryptions of different blocks), and those of different keys here too.
func TestBlocksDiffer(t *testing.T) {
	seen := map[[16]byte]bool{}
	count := 0
	for _, key := range []string{specialKey, countedKey, zeroKey, onesKey} {
		for _, n := range []api.Nonce{zeroNonce, smallNonce, {Shard: 2, Counter: 1}, {Shard: 1}, {Counter: 1}, {Counter: 1 << 32}, specialNonce, greatestNonce} {
			for _, counter := range []uint32{0, 1, 2, 256, 65536, 1 << 24, math.MaxUint32} {
				seen[streams.Block(block(t, key), n, counter)] = true
				count++
			}
		}
	}
	if len(seen) != count {
		t.Errorf("%d of %d blocks are different", len(seen), count)
	}
}

// P7.2
func TestXorPieces(t *testing.T) {
	for _, x := range pieces {
		got := xor(t, block(t, x.key), x.nonce, x.from, pattern(x.size))
		if hex.EncodeToString(got) != x.want {
			t.Errorf("key %s, nonce %v, %d bytes from %d on: %x, want %s", x.key, x.nonce, x.size, x.from, got, x.want)
		}
	}
}

// P7.2: long data, up to the whole key stream.
func TestXorLongPieces(t *testing.T) {
	for _, x := range longPieces {
		got := digests.Of(xor(t, block(t, x.key), x.nonce, x.from, pattern(x.size)))
		if hex.EncodeToString(got[:]) != x.want {
			t.Errorf("key %s, nonce %v, %d bytes from %d on: the digest %x, want %s", x.key, x.nonce, x.size, x.from, got, x.want)
		}
	}
}

// P7.2: all offsets and sizes around the ends of the first blocks, against the definition.
func TestXorAroundEndsOfBlocks(t *testing.T) {
	key := block(t, onesKey)
	stream := reference(key, specialNonce, 200)
	for from := range 100 {
		for size := range 70 {
			data := pattern(size)
			want := make([]byte, size)
			for i := range want {
				want[i] = data[i] ^ stream[from+i]
			}
			if got := xor(t, key, specialNonce, from, data); !bytes.Equal(got, want) {
				t.Errorf("%d bytes from %d on: %x, want %x", size, from, got, want)
			}
		}
	}
}

// P7.2: the same at the end of the key stream.
func TestXorAtTheEnd(t *testing.T) {
	key := block(t, countedKey)
	const start = streams.MaxStream - 64
	var stream []byte
	for i := range 4 {
		b := streams.Block(key, smallNonce, uint32(start/16+i))
		stream = append(stream, b[:]...)
	}
	for from := start; from <= streams.MaxStream; from++ {
		for size := range streams.MaxStream - from + 1 {
			if got := xor(t, key, smallNonce, from, make([]byte, size)); !bytes.Equal(got, stream[from-start:][:size]) {
				t.Errorf("%d bytes 00 from %d on: %x, want %x", size, from, got, stream[from-start:][:size])
			}
		}
	}
}

// P7.1, P7.2: Xor of zeros is the key stream that Block returns block by block.
func TestXorOfZerosIsTheKeyStream(t *testing.T) {
	key := block(t, specialKey)
	const size = 70000 // beyond the counter 4096
	stream := xor(t, key, greatestNonce, 0, make([]byte, size))
	for counter := range uint32(size / 16) {
		want := streams.Block(key, greatestNonce, counter)
		if got := stream[16*counter:][:16]; !bytes.Equal(got, want[:]) {
			t.Fatalf("counter %d: %x, want %x", counter, got, want)
		}
	}
}

// P7.2, R3: the errors, in their order; with an error there are no bytes. Data of no bytes is accepted, also behind the last byte of the key stream.
func TestXorLimits(t *testing.T) {
	all := pattern(streams.MaxStream + 2)
	for _, x := range limits {
		want := x.e
		if want == api.ErrEmpty {
			want = api.OK
		}
		got, e := streams.Xor(block(t, zeroKey), smallNonce, x.from, all[:x.size])
		if e != want {
			t.Errorf("%d bytes from %d on: error %d, want %d", x.size, x.from, e, want)
		}
		if e != api.OK && len(got) != 0 || e == api.OK && len(got) != x.size {
			t.Errorf("%d bytes from %d on: %d bytes with the error %d", x.size, x.from, len(got), e)
		}
	}
}

// P7.2, R4: nil is data of no bytes.
func TestXorOfNothing(t *testing.T) {
	for _, data := range [][]byte{nil, {}, make([]byte, 0, 8)} {
		for _, x := range []call{
			{0, 0, api.OK},
			{15, 0, api.OK},
			{16, 0, api.OK},
			{streams.MaxStream, 0, api.OK},
			{streams.MaxStream + 1, 0, api.ErrLimit},
			{math.MaxInt, 0, api.ErrLimit},
			{-1, 0, api.ErrArg},
			{math.MinInt, 0, api.ErrArg},
		} {
			if got, e := streams.Xor(block(t, onesKey), zeroNonce, x.from, data); len(got) != 0 || cap(got) != 0 || e != x.e {
				t.Errorf("from %d on: %x, %d, want no bytes, %d", x.from, got, e, x.e)
			}
		}
	}
}

// P7.2, R4: the data stays as it is, also behind its end; the result is new memory without spare capacity.
func TestXorReturnsNewMemory(t *testing.T) {
	key := block(t, countedKey)
	for _, from := range []int{0, 5, 15, 16, 1000} {
		for _, size := range []int{1, 5, 11, 15, 16, 17, 31, 32, 33, 100, 1000, 4097} {
			memory := pattern(size + 40)
			before := slices.Clone(memory)
			got := xor(t, key, smallNonce, from, memory[:size])
			if !bytes.Equal(memory, before) {
				t.Errorf("%d bytes from %d on: the data was modified", size, from)
			}
			if cap(got) != len(got) {
				t.Errorf("%d bytes from %d on have a capacity of %d", len(got), from, cap(got))
			}
			kept := slices.Clone(got)
			again := xor(t, key, smallNonce, from, memory[:size])
			clear(memory)
			if !bytes.Equal(got, kept) {
				t.Errorf("%d bytes from %d on: the result shares memory with the data", size, from)
			}
			clear(got)
			if !bytes.Equal(again, kept) {
				t.Errorf("%d bytes from %d on: the result shares memory with another one", size, from)
			}
		}
	}
}

// P7.2, R4: with an error the data stays as it is, too.
func TestXorWithErrorKeepsData(t *testing.T) {
	data := pattern(100)
	for _, from := range []int{-1, streams.MaxStream - 99, streams.MaxStream + 1} {
		if _, e := streams.Xor(block(t, zeroKey), zeroNonce, from, data); e == api.OK || !bytes.Equal(data, pattern(100)) {
			t.Errorf("from %d on: error %d, the data %x", from, e, data)
		}
	}
}

// P7.3: the chapter's examples, and others.
func TestUsed(t *testing.T) {
	for _, x := range []struct {
		from, size  int
		first, last uint32
	}{
		{0, 32, 0, 1},
		{15, 2, 0, 1},
		{16, 16, 1, 1},
		{0, 1, 0, 0},
		{0, 15, 0, 0},
		{0, 16, 0, 0},
		{0, 17, 0, 1},
		{15, 1, 0, 0},
		{16, 1, 1, 1},
		{31, 1, 1, 1},
		{31, 2, 1, 2},
		{32, 32, 2, 3},
		{1, 32, 0, 2},
		{4095, 2, 255, 256},
		{0, streams.MaxStream - 1, 0, 65535},
		{0, streams.MaxStream, 0, 65535},
		{1, streams.MaxStream - 1, 0, 65535},
		{16, streams.MaxStream - 16, 1, 65535},
		{0, streams.MaxStream - 16, 0, 65534},
		{0, streams.MaxStream - 15, 0, 65535},
		{streams.MaxStream - 1, 1, 65535, 65535},
		{streams.MaxStream - 16, 16, 65535, 65535},
		{streams.MaxStream - 17, 1, 65534, 65534},
		{streams.MaxStream - 17, 17, 65534, 65535},
	} {
		for _, n := range []api.Nonce{zeroNonce, smallNonce, specialNonce, greatestNonce} {
			want := streams.Range{Nonce: n, First: x.first, Last: x.last}
			if got, e := streams.Used(n, x.from, x.size); got != want || e != api.OK {
				t.Errorf("Used(%v, %d, %d) = %v, %d, want %v", n, x.from, x.size, got, e, want)
			}
		}
	}
}

// P7.3: the counters of all bytes, byte by byte.
func TestUsedAroundEndsOfBlocks(t *testing.T) {
	for _, start := range []int{0, 4080, 65500, streams.MaxStream - 70} {
		for from := start; from < start+50; from++ {
			for size := 1; size <= 70 && from+size <= streams.MaxStream; size++ {
				first, last := counters(from, size)
				want := streams.Range{Nonce: smallNonce, First: first, Last: last}
				if got, e := streams.Used(smallNonce, from, size); got != want || e != api.OK {
					t.Errorf("Used(n, %d, %d) = %v, %d, want %v", from, size, got, e, want)
				}
			}
		}
	}
}

// P7.3, R3: the errors, in their order; with an error the range is the zero one.
func TestUsedLimits(t *testing.T) {
	for _, x := range slices.Concat(limits, sizeLimits) {
		got, e := streams.Used(specialNonce, x.from, x.size)
		if e != x.e {
			t.Errorf("Used(n, %d, %d): error %d, want %d", x.from, x.size, e, x.e)
		}
		if e != api.OK && got != (streams.Range{}) || e == api.OK && got.Nonce != specialNonce {
			t.Errorf("Used(n, %d, %d) = %v with the error %d", x.from, x.size, got, e)
		}
	}
}

// P7.2, P7.3: Xor and Used refuse the same, but for data of no bytes.
func TestXorRefusesWhatUsedRefuses(t *testing.T) {
	for _, from := range []int{math.MinInt, -17, -16, -1, 0, 1, 16, 1000, streams.MaxStream - 17, streams.MaxStream - 16, streams.MaxStream - 1, streams.MaxStream, streams.MaxStream + 1, math.MaxInt} {
		for _, size := range []int{0, 1, 15, 16, 17, 18, 100} {
			_, xorError := streams.Xor(block(t, onesKey), smallNonce, from, make([]byte, size))
			_, usedError := streams.Used(smallNonce, from, size)
			if usedError == api.ErrEmpty {
				usedError = api.OK
			}
			if xorError != usedError {
				t.Errorf("%d bytes from %d on: Xor returns the error %d, Used %d", size, from, xorError, usedError)
			}
		}
	}
}

// P7.3: the blocks of the counters of Used, and no fewer, have the bytes that Xor takes.
func TestXorUsesTheRange(t *testing.T) {
	key := block(t, specialKey)
	for _, from := range []int{0, 1, 15, 16, 17, 31, 32, 1000, 65535, streams.MaxStream - 100} {
		for size := 1; size <= 100; size++ {
			used, e := streams.Used(smallNonce, from, size)
			if e != api.OK || used.First > used.Last {
				t.Fatalf("Used(n, %d, %d) = %v, %d", from, size, used, e)
			}
			var stream []byte
			for counter := used.First; counter <= used.Last; counter++ {
				b := streams.Block(key, used.Nonce, counter)
				stream = append(stream, b[:]...)
			}
			skip := from - 16*int(used.First)
			rest := len(stream) - skip - size
			if skip < 0 || skip > 15 || rest < 0 || rest > 15 {
				t.Fatalf("%d bytes from %d on do not take bytes of the first and the last block of %v", size, from, used)
			}
			if got := xor(t, key, smallNonce, from, make([]byte, size)); !bytes.Equal(got, stream[skip:skip+size]) {
				t.Errorf("%d bytes 00 from %d on: %x, want %x, of the blocks of %v", size, from, got, stream[skip:skip+size], used)
			}
		}
	}
}

func overlap(t *testing.T, a, b streams.Range, want bool) {
	t.Helper()
	if got := streams.Overlap(a, b); got != want {
		t.Errorf("Overlap(%v, %v) = %v", a, b, got)
	}
	if got := streams.Overlap(b, a); got != want {
		t.Errorf("Overlap(%v, %v) = %v", b, a, got)
	}
}

// P7.4: the chapter's examples, and ranges that touch, have one counter in common, contain another one, are the same, or are not valid.
func TestOverlap(t *testing.T) {
	const greatest = math.MaxUint32
	n := func(first, last uint32) streams.Range {
		return streams.Range{Nonce: smallNonce, First: first, Last: last}
	}
	for _, x := range []struct {
		a, b streams.Range
		want bool
	}{
		{n(0, 1), n(1, 2), true},
		{n(0, 1), n(2, 3), false},
		{n(0, 1), n(0, 1), true},
		{n(0, 0), n(0, 0), true},
		{n(0, 0), n(1, 1), false},
		{n(5, 5), n(0, 10), true},
		{n(0, 10), n(10, 20), true},
		{n(0, 9), n(10, 20), false},
		{n(0, 9), n(100, 200), false},
		{n(0, greatest), n(0, greatest), true},
		{n(0, greatest), n(greatest, greatest), true},
		{n(0, greatest), n(0, 0), true},
		{n(0, greatest-1), n(greatest, greatest), false},
		{n(0, 0), n(greatest, greatest), false},
		{n(greatest, greatest), n(greatest, greatest), true},
		{n(0, 1<<31-1), n(1<<31, greatest), false},
		{n(0, 1<<31), n(1<<31, greatest), true},
		{n(1, 0), n(0, 1), false},
		{n(1, 0), n(1, 0), false},
		{n(9, 2), n(3, 8), false},
		{n(9, 2), n(0, greatest), false},
		{n(2, 1), n(1, 2), false},
		{n(greatest, 0), n(0, greatest), false},
		{n(greatest, 0), n(greatest, 0), false},
		{n(greatest, 0), n(0, 0), false},
		{n(greatest, 0), n(greatest, greatest), false},
		{n(greatest, greatest-1), n(0, greatest), false},
		{streams.Range{}, streams.Range{}, true},
		{streams.Range{}, n(0, 0), false},
	} {
		overlap(t, x.a, x.b, x.want)
	}
}

// P7.4: all ranges of a few counters, valid or not, with and without the same nonce, against the counters that both have.
func TestOverlapOfAllRanges(t *testing.T) {
	for _, base := range []uint32{0, 1<<31 - 3, math.MaxUint32 - 5} {
		var ranges []streams.Range
		for first := range uint32(6) {
			for last := range uint32(6) {
				ranges = append(ranges, streams.Range{Nonce: greatestNonce, First: base + first, Last: base + last})
			}
		}
		for _, a := range ranges {
			for _, b := range ranges {
				common := false
				for i := range uint32(6) {
					c := base + i
					common = common || a.First <= c && c <= a.Last && b.First <= c && c <= b.Last
				}
				overlap(t, a, b, common)
				b.Nonce = smallNonce
				overlap(t, a, b, false)
			}
		}
	}
}

// P7.4, P7.5: ranges of different nonces do not overlap, also if only the shard or only the counter is another one.
func TestOverlapOfDifferentNonces(t *testing.T) {
	nonces := []api.Nonce{zeroNonce, smallNonce, specialNonce, greatestNonce, {Shard: 1}, {Shard: 1, Counter: 3}, {Shard: 2, Counter: 2}, {Shard: 2, Counter: 1}, {Counter: 1}, {Counter: 2}, {Shard: 1, Counter: 2 + 1<<32}, {Counter: 1 << 32}, {Counter: 1 << 63}}
	for i, n := range nonces {
		for k, m := range nonces {
			for _, last := range []uint32{0, 1, math.MaxUint32} {
				a, b := streams.Range{Nonce: n, Last: last}, streams.Range{Nonce: m, Last: last}
				overlap(t, a, b, i == k)
			}
			a, _ := streams.Used(n, 0, 32)
			b, _ := streams.Used(m, 15, 2)
			overlap(t, a, b, i == k)
		}
	}
}

// P7.3, P7.4: what Used returns for two pieces overlaps if a byte of one is in a block of which the other one has a byte.
func TestOverlapOfUsed(t *testing.T) {
	for _, x := range []struct {
		from, size, otherFrom, otherSize int
		want                             bool
	}{
		{0, 32, 32, 32, false},
		{0, 31, 31, 1, true},
		{0, 16, 16, 16, false},
		{0, 17, 17, 15, true},
		{0, 15, 15, 1, true},
		{0, streams.MaxStream, streams.MaxStream - 1, 1, true},
		{0, streams.MaxStream - 16, streams.MaxStream - 16, 16, false},
	} {
		a, e := streams.Used(smallNonce, x.from, x.size)
		b, f := streams.Used(smallNonce, x.otherFrom, x.otherSize)
		if e != api.OK || f != api.OK {
			t.Fatalf("errors %d and %d", e, f)
		}
		overlap(t, a, b, x.want)
	}
}

// P7.5
func TestXorInvertsItself(t *testing.T) {
	for _, key := range []string{specialKey, countedKey, zeroKey, onesKey} {
		for _, n := range []api.Nonce{zeroNonce, smallNonce, specialNonce, greatestNonce} {
			for _, from := range []int{0, 1, 15, 16, 17, 999, streams.MaxStream - 1000} {
				for _, size := range []int{0, 1, 15, 16, 17, 32, 100, 1000} {
					data := pattern(size)
					x := xor(t, block(t, key), n, from, data)
					if got := xor(t, block(t, key), n, from, x); !bytes.Equal(got, data) {
						t.Errorf("key %s, nonce %v, %d bytes from %d on, twice: %x", key, n, size, from, got)
					}
					if size >= 15 && bytes.Equal(x, data) {
						t.Errorf("key %s, nonce %v, %d bytes from %d on stay as they are", key, n, size, from)
					}
				}
			}
		}
	}
}

// P7.5: data in two parts, divided at each place.
func TestXorInTwoParts(t *testing.T) {
	key := block(t, countedKey)
	const size = 70
	data := pattern(size)
	for _, from := range []int{0, 1, 7, 15, 16, 17, 1000, 4090, streams.MaxStream - size} {
		whole := xor(t, key, specialNonce, from, data)
		for at := range size + 1 {
			first := xor(t, key, specialNonce, from, data[:at])
			second := xor(t, key, specialNonce, from+at, data[at:])
			if got := words.Join(first, second); !bytes.Equal(got, whole) {
				t.Errorf("%d bytes from %d on, divided at %d: %x, want %x", size, from, at, got, whole)
			}
		}
	}
}

// P7.5: the whole key stream, in two parts and in many.
func TestWholeStreamInParts(t *testing.T) {
	key := block(t, zeroKey)
	data := pattern(streams.MaxStream)
	whole := xor(t, key, smallNonce, 0, data)
	for _, at := range []int{1, 500001, streams.MaxStream - 1} {
		first := xor(t, key, smallNonce, 0, data[:at])
		second := xor(t, key, smallNonce, at, data[at:])
		if !bytes.Equal(words.Join(first, second), whole) {
			t.Errorf("the whole key stream, divided at %d, is another one", at)
		}
	}
	var parts []byte
	for size := 1; len(parts) < len(data); size = size*3%4099 + 1 {
		from := len(parts)
		size = min(size, len(data)-from)
		parts = append(parts, xor(t, key, smallNonce, from, data[from:from+size])...)
	}
	if !bytes.Equal(parts, whole) {
		t.Error("the whole key stream in many parts is another one")
	}
}

// P7.1, P7.2: a result does not depend on the calls before, or on those at the same time.
func TestCallsAreIndependent(t *testing.T) {
	keys := [][16]byte{block(t, specialKey), block(t, countedKey), block(t, zeroKey)}
	work := func(i int) []byte {
		key, n := keys[i%len(keys)], api.Nonce{Shard: uint32(i), Counter: uint64(i) << 30}
		b := streams.Block(key, n, uint32(i))
		x, _ := streams.Xor(key, n, 3*i, pattern(5*i))
		return append(x, b[:]...)
	}
	var first, again [64][]byte
	for i := range first {
		first[i] = work(i)
	}
	var group sync.WaitGroup
	for i := range again {
		group.Add(1)
		go func() {
			defer group.Done()
			again[63-i] = work(63 - i)
		}()
	}
	group.Wait()
	for i := range first {
		if !bytes.Equal(first[i], again[i]) {
			t.Errorf("the calls %d returned different results", i)
		}
	}
}
