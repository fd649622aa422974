package macs_test

import (
	"bytes"
	"encoding/hex"
	"slices"
	"strings"
	"testing"

	"caisson/api"
	"caisson/digests"
	"caisson/macs"
)

type example struct{ key, message, tag string }

// examples returns the test cases of RFC 4231; of number 5 all bytes of the tag, not only the first 16.
func examples() []example {
	return []example{
		{strings.Repeat("\x0b", 20), "Hi There", "b0344c61 d8db3853 5ca8afce af0bf12b 881dc200 c9833da7 26e9376c 2e32cff7"},
		{"Jefe", "what do ya want for nothing?", "5bdcc146 bf60754e 6a042426 089575c7 5a003f08 9d273983 9dec58b9 64ec3843"},
		{strings.Repeat("\xaa", 20), strings.Repeat("\xdd", 50), "773ea91e 36800e46 854db8eb d09181a7 2959098b 3ef8c122 d9635514 ced565fe"},
		{string(keyOf(25)), strings.Repeat("\xcd", 50), "82558a38 9a443c0e a4cc8198 99f2083a 85f0faa3 e578f807 7a2e3ff4 6729665b"},
		{strings.Repeat("\x0c", 20), "Test With Truncation", "a3b61674 73100ee0 6e0c796c 2955552b fa6f7c0a 6a8aef8b 93f860aa b0cd20c5"},
		{strings.Repeat("\xaa", 131), "Test Using Larger Than Block-Size Key - Hash Key First", "60e43159 1ee0b67f 0d8a26aa cbf5b77f 8e0bc621 3728c514 0546040f 0ee37f54"},
		{strings.Repeat("\xaa", 131), "This is a test using a larger than block-size key and a larger than block-size data. The key needs to be hashed before being used by the HMAC algorithm.", "9b09ffa7 1b942fcb 27635fbc d5b0e944 bfdc6364 4f071393 8a7f5153 5c3a35e2"},
	}
}

// sizes are the lengths of a key and of a message.
type sizes struct{ key, message int }

// The tags of pattern(message) with keyOf(key), as another program (Python's hmac) computes them.
var tags = map[sizes]string{
	{0, 0}:      "b613679a0814d9ec772f95d778c35fc5ff1697c493715653c6c712144292c5ad",
	{0, 1}:      "6620b31f2924b8c01547745f41825d322336f83ebb13d723678789d554d8a3ef",
	{0, 55}:     "423ea870abae045fef3242dacb44b4fc2b23214142a7e81b4e45e3121035e922",
	{0, 200}:    "0b4401b24341c818f96a9814c6af33f90ebb69849f78a569cf3fb4dcc3bda21e",
	{1, 0}:      "2f8738164025afdddbc18665c6e8f37de9498db7fd194873c61ee30c22192a9a",
	{1, 1}:      "3c7d3cfe55c1ef3d73e38a0e3717dc3b4c9261440cbec0978191283dd185cbce",
	{1, 56}:     "e384a45df8aa57ad28cd9f0ead6d0f4961186d1e0264ff1cc9fb05bf23e955fe",
	{1, 200}:    "d5f081f2e0bbf155e340371af5be88340fa8f2cab57d1ee5f3b91e9111ffe43e",
	{32, 0}:     "462476a897ddfdbd40d1420e08a5bcfeeb25c3e2ade6a0a9083b327b9ef9fca1",
	{32, 200}:   "b2e86fc94ef6a2ff09983655a4689adfb243d9c0388e9436409809f869326302",
	{33, 64}:    "bb12ddc613c82e6042ce015acb328486d358d23291c8906c3d9ac42dfa7ed4da",
	{63, 0}:     "6d3f298be7bae388fd14e89cc2343c2aecb21cc32528bbc5fb7b088330411e99",
	{63, 1}:     "4e84c75d11f0cedc547df08617474089a15f9b55158b405365b6cfec89da0bb4",
	{63, 200}:   "19d0f8fc10bbae35e755f775a5865c02a1c3acfd666e15590348b014424c5ae8",
	{64, 0}:     "a8bcfb5fbebd6dffec2993621ec46e39b5afa98d5ad06eb65063a2e7e207ba1a",
	{64, 64}:    "ceb89c7f49f01d184188ef08026d7e0b4b90ba9145dcdab034f979562d8f5247",
	{64, 200}:   "c03ada9cbdef94e2a8a6dc3eafd5091c1ac169f6b80850916c8c28e46dc4fe6a",
	{65, 0}:     "ebd84bceb8262de51405765765f6bc9d4dbe4cf6c6b940160b902b42c89bb118",
	{65, 55}:    "62acdba76cc336adf49b2ca5a895ec39b891fdd2152a4729e47f3f39a148a683",
	{65, 200}:   "77660ae61cd724a63ee7ce7e0362a52fa8509675989efb537c2a5da4e8f95664",
	{66, 1}:     "8e90af162cc73e95edbac0d567b52b71fb068af153e35b4d9a2ad30abd95d418",
	{127, 200}:  "bd3590c032c25a923c89adb13a836026d092283def8c55acc561e30d7d07fe7b",
	{128, 56}:   "2634053550e3de9502b66b8ebcd510b8eb8f0e6f4819b02c65a8ba5406b6d766",
	{129, 200}:  "fadf9a45692ff30a38492af642d673a673180d1cbe5530f01f75ab96a93b155a",
	{1000, 0}:   "648d7d2a1d239c6006cec26ce1dba528b7a5cc713bcc6355e91a9df207109b03",
	{1000, 200}: "34fa322959015f892fea75e95479a0739266ff2445d45c5036c1a019bfe1d5c2",
}

// keyOf returns a key of n bytes, none of which is 00.
func keyOf(n int) []byte {
	b := make([]byte, n)
	for i := range b {
		b[i] = byte(i%250 + 1)
	}
	return b
}

// pattern returns n bytes whose period fits no block.
func pattern(n int) []byte {
	b := make([]byte, n)
	for i := range b {
		b[i] = byte(i % 251)
	}
	return b
}

func digest(t *testing.T, text string) api.Digest {
	t.Helper()
	b, err := hex.DecodeString(strings.ReplaceAll(text, " ", ""))
	if err != nil || len(b) != len(api.Digest{}) {
		t.Fatalf("%q is no digest", text)
	}
	return api.Digest(b)
}

// reference is what the chapter says about the tag, with the key block that the test expects.
func reference(block [64]byte, message []byte) api.Digest {
	inner, outer := make([]byte, 64), make([]byte, 64)
	for i, c := range block {
		inner[i], outer[i] = c^0x36, c^0x5c
	}
	d := digests.Of(slices.Concat(inner, message))
	return digests.Of(slices.Concat(outer, d[:]))
}

// P3.1
func TestBlockOfShortKey(t *testing.T) {
	for n := range 65 {
		key := keyOf(n)
		block := macs.Block(key)
		if !bytes.Equal(block[:n], key) || !bytes.Equal(block[n:], make([]byte, 64-n)) {
			t.Errorf("the key block of %d bytes is %x", n, block)
		}
	}
	if got := macs.Block(nil); got != [64]byte{} {
		t.Errorf("Block(nil) = %x", got)
	}
	if got := macs.Block([]byte{0, 0, 7}); got != [64]byte{2: 7} {
		t.Errorf("Block(00 00 07) = %x", got)
	}
}

// P3.1
func TestBlockOfLongKey(t *testing.T) {
	first := digest(t, "47e9b736f9001fab14640d9c915574c20669621520371f05a4b50906020dc49f")
	if block := macs.Block(keyOf(65)); !bytes.Equal(block[:32], first[:]) {
		t.Errorf("the key block of 65 bytes is %x", block)
	}
	for _, n := range []int{65, 66, 96, 127, 128, 129, 131, 1000} {
		want := digests.Of(keyOf(n))
		block := macs.Block(keyOf(n))
		if !bytes.Equal(block[:32], want[:]) || !bytes.Equal(block[32:], make([]byte, 32)) {
			t.Errorf("the key block of %d bytes is %x", n, block)
		}
	}
}

// P3.1
func TestBlockOfZeros(t *testing.T) {
	for n := range 65 {
		if got := macs.Block(make([]byte, n)); got != [64]byte{} {
			t.Errorf("the key block of %d bytes 00 is %x", n, got)
		}
	}
	if got := macs.Block(make([]byte, 65)); got == [64]byte{} {
		t.Error("the key block of 65 bytes 00 is zero")
	}
}

// P3.1: the digest of a long key is a key block's beginning, so as a key it has the same block.
func TestBlockOfDigestOfLongKey(t *testing.T) {
	for _, n := range []int{65, 100, 200} {
		d := digests.Of(keyOf(n))
		if macs.Block(d[:]) != macs.Block(keyOf(n)) {
			t.Errorf("a key of %d bytes and its digest have different key blocks", n)
		}
	}
}

// P3.2, P3.3
func TestExamples(t *testing.T) {
	for i, x := range examples() {
		key, message, want := []byte(x.key), []byte(x.message), digest(t, x.tag)
		if got := macs.Of(key, message); got != want {
			t.Errorf("example %d: %x, want %x", i+1, got, want)
		}
		if !macs.Verify(key, message, want) {
			t.Errorf("example %d: its tag is not accepted", i+1)
		}
	}
	if macs.Verify([]byte("Jefe"), []byte("what do ya want"), digest(t, examples()[1].tag)) {
		t.Error("the tag is accepted for a beginning of its message")
	}
}

// P3.2: keys around the end of the key block, and messages around the ends of blocks.
func TestLengths(t *testing.T) {
	for n, text := range tags {
		if got, want := macs.Of(keyOf(n.key), pattern(n.message)), digest(t, text); got != want {
			t.Errorf("a key of %d bytes, a message of %d: %x, want %x", n.key, n.message, got, want)
		}
	}
}

// P3.2: all lengths below 140; the digest of the tags is known, too.
func TestAllLengths(t *testing.T) {
	var all []byte
	for k := range 140 {
		for m := range 140 {
			tag := macs.Of(keyOf(k), pattern(m))
			all = append(all, tag[:]...)
		}
	}
	want := digest(t, "ab19c91dbb98fe86112a72076526d5cffbc2204c39a8f97578d7cc9ff2e17b9f")
	if got := digests.Of(all); got != want {
		t.Errorf("the digest of the tags is %x, want %x", got, want)
	}
}

// P3.2: any bytes, among them each single bit of a key block.
func TestOfAgainstReference(t *testing.T) {
	for bit := range 512 {
		var block [64]byte
		block[bit/8] = 1 << (bit % 8)
		if got, want := macs.Of(block[:], pattern(bit)), reference(block, pattern(bit)); got != want {
			t.Errorf("bit %d of the key: %x, want %x", bit, got, want)
		}
	}
	ones := [64]byte(bytes.Repeat([]byte{0xff}, 64))
	if got, want := macs.Of(ones[:], ones[:]), reference(ones, ones[:]); got != want {
		t.Errorf("a key of bytes ff: %x, want %x", got, want)
	}
}

// P3.2
func TestNoMessage(t *testing.T) {
	for _, n := range []int{0, 1, 63, 64, 65, 1000} {
		key, want := keyOf(n), digest(t, tags[sizes{n, 0}])
		for name, got := range map[string]api.Digest{
			"no parts":    macs.Of(key),
			"nil":         macs.Of(key, nil),
			"empty":       macs.Of(key, []byte{}),
			"empty parts": macs.Of(key, nil, []byte{}, nil),
		} {
			if got != want {
				t.Errorf("a key of %d bytes, %s: %x, want %x", n, name, got, want)
			}
		}
		if !macs.Verify(key, nil, want) || !macs.Verify(key, []byte{}, want) {
			t.Errorf("a key of %d bytes: the tag of the empty message is not accepted", n)
		}
	}
	if macs.Of(nil) != macs.Of([]byte{}) || macs.Of(nil) != digest(t, tags[sizes{0, 0}]) {
		t.Error("a nil key is not like an empty one")
	}
}

// P3.3: a tag with one bit that is wrong, whichever it is.
func TestVerifyRefusesEachBit(t *testing.T) {
	for _, n := range []sizes{{0, 0}, {1, 1}, {32, 200}, {64, 64}, {65, 55}, {1000, 200}} {
		key, message := keyOf(n.key), pattern(n.message)
		tag := macs.Of(key, message)
		if !macs.Verify(key, message, tag) {
			t.Errorf("a key of %d bytes, a message of %d: the tag is not accepted", n.key, n.message)
		}
		for bit := range 256 {
			wrong := tag
			wrong[bit/8] ^= 1 << (bit % 8)
			if macs.Verify(key, message, wrong) {
				t.Errorf("a key of %d bytes, a message of %d: accepted with another bit %d", n.key, n.message, bit)
			}
		}
	}
}

// P3.3: differences that cancel each other in a sum or in an exclusive or, and tags that are right in part.
func TestVerifyRefusesOtherTags(t *testing.T) {
	key, message := keyOf(32), pattern(100)
	tag := macs.Of(key, message)
	refuse := func(name string, wrong api.Digest) {
		t.Helper()
		if macs.Verify(key, message, wrong) {
			t.Errorf("%s: accepted", name)
		}
	}
	refuse("zero", api.Digest{})
	for i := range tag {
		other := tag
		other[i] = ^tag[i]
		refuse("one byte", other)
		for j := range i {
			both := tag
			both[i], both[j] = tag[i]^0x80, tag[j]^0x80
			refuse("two bytes with the same difference", both)
			both[i], both[j] = tag[i]+1, tag[j]-1
			refuse("two bytes with opposite differences", both)
		}
		beginning := api.Digest{}
		copy(beginning[:i], tag[:i])
		refuse("a beginning", beginning)
		end := tag
		clear(end[:i+1])
		refuse("an end", end)
	}
	slices.Reverse(tag[:])
	refuse("reversed", tag)
}

// P3.3: the tag belongs to one key and one message.
func TestVerifyRefusesOtherKeysAndMessages(t *testing.T) {
	key, message := keyOf(64), pattern(64)
	tag := macs.Of(key, message)
	for bit := range 512 {
		other := slices.Clone(key)
		other[bit/8] ^= 1 << (bit % 8)
		if macs.Verify(other, message, tag) {
			t.Errorf("accepted with another bit %d of the key", bit)
		}
		other = slices.Clone(message)
		other[bit/8] ^= 1 << (bit % 8)
		if macs.Verify(key, other, tag) {
			t.Errorf("accepted with another bit %d of the message", bit)
		}
	}
	for n := range 64 {
		if macs.Verify(key[:n], message, tag) || macs.Verify(key, message[:n], tag) {
			t.Errorf("accepted for the first %d bytes", n)
		}
	}
	if macs.Verify(key, append(message, 0), tag) || macs.Verify(message, key, tag) || macs.Verify(nil, nil, tag) {
		t.Error("accepted for another key or message")
	}
}

// P3.4
func TestDividedInTwo(t *testing.T) {
	for _, n := range []int{0, 1, 63, 64, 65, 200} {
		message := pattern(n)
		for _, k := range []int{0, 20, 64, 65} {
			want := macs.Of(keyOf(k), message)
			for at := range n + 1 {
				if got := macs.Of(keyOf(k), message[:at], message[at:]); got != want {
					t.Errorf("a key of %d bytes, a message of %d, divided at %d: %x, want %x", k, n, at, got, want)
				}
				if got := macs.Of(keyOf(k), nil, message[:at], []byte{}, message[at:], nil); got != want {
					t.Errorf("a key of %d bytes, a message of %d, divided at %d, with empty parts: %x, want %x", k, n, at, got, want)
				}
			}
		}
	}
}

// P3.4
func TestDividedInMany(t *testing.T) {
	message := pattern(500)
	want := macs.Of(keyOf(32), message)
	for _, size := range []int{1, 2, 3, 7, 55, 56, 63, 64, 65, 128, 499} {
		parts := slices.Collect(slices.Chunk(message, size))
		if got := macs.Of(keyOf(32), parts...); got != want {
			t.Errorf("in parts of %d bytes: %x, want %x", size, got, want)
		}
	}
	if macs.Of(keyOf(32), message[250:], message[:250]) == want {
		t.Error("the order of the parts has no part in the tag")
	}
}

// P3.4: as long as both keys have at most 64 bytes.
func TestKeyWithZeros(t *testing.T) {
	message := pattern(100)
	for n := range 64 {
		key, longer := keyOf(n), append(keyOf(n), 0)
		want := macs.Of(key, message)
		for len(longer) <= 64 {
			if macs.Block(longer) != macs.Block(key) {
				t.Errorf("a key of %d bytes has another key block with %d bytes 00 behind it", n, len(longer)-n)
			}
			if got := macs.Of(longer, message); got != want || !macs.Verify(longer, message, want) {
				t.Errorf("a key of %d bytes has another tag with %d bytes 00 behind it: %x, want %x", n, len(longer)-n, got, want)
			}
			longer = append(longer, 0)
		}
		if got := macs.Of(longer, message); got == want || macs.Verify(longer, message, want) {
			t.Errorf("a key of %d bytes has the same tag when bytes 00 make it 65 bytes long", n)
		}
	}
	if key := keyOf(64); macs.Of(key, message) == macs.Of(append(key, 0), message) {
		t.Error("a key of 64 bytes has the same tag with a byte 00 behind it")
	}
	if macs.Of(append([]byte{0}, keyOf(3)...), message) == macs.Of(keyOf(3), message) {
		t.Error("a key has the same tag with a byte 00 in front of it")
	}
}

// P3.1 to P3.3, R4: neither the arguments nor what stands behind their ends is modified.
func TestArgumentsAreNotModified(t *testing.T) {
	for _, n := range []int{0, 1, 20, 63, 64, 65, 100} {
		key, message := keyOf(300), pattern(300)
		parts := [][]byte{message[:n], nil, message[n : 2*n], message[2*n:]}
		want := slices.Clone(parts)
		tag := macs.Of(key[:n], parts...)
		macs.Block(key[:n])
		macs.Verify(key[:n], message[:n], tag)
		if !bytes.Equal(key, keyOf(300)) || !bytes.Equal(message, pattern(300)) {
			t.Errorf("a key or a message was modified: %x, %x", key, message)
		}
		for i := range parts {
			if !bytes.Equal(parts[i], want[i]) {
				t.Errorf("part %d was modified", i)
			}
		}
		if got := macs.Of(keyOf(n), pattern(300)); got != tag {
			t.Errorf("the first %d bytes of a longer key: %x, want %x", n, tag, got)
		}
	}
}

// P3.1 to P3.3, R5: nothing is kept from one call to the next.
func TestCallsAreIndependent(t *testing.T) {
	key := keyOf(20)
	tag := macs.Of(key, []byte("one"))
	block := macs.Block(key)
	clear(block[:])
	macs.Of([]byte("other"), []byte("two"))
	if macs.Of(key, []byte("one")) != tag || !macs.Verify(key, []byte("one"), tag) || macs.Block(key) == block {
		t.Error("a call has changed the results of others")
	}
	clear(key)
	if macs.Of(keyOf(20), []byte("one")) != tag {
		t.Error("a key that was changed afterwards has changed the tag of another one")
	}
}
