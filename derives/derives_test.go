package derives_test

import (
	"bytes"
	"encoding/hex"
	"fmt"
	"math"
	"slices"
	"strings"
	"testing"

	"caisson/api"
	"caisson/derives"
	"caisson/digests"
	"caisson/macs"
)

type example struct {
	secret, salt, info []byte
	prk, expanded      string
}

// examples returns the test cases of RFC 5869 for SHA-256; the first one is the chapter's.
func examples() []example {
	return []example{
		{
			bytes.Repeat([]byte{0x0b}, 22), ascending(0, 13), ascending(0xf0, 10),
			"077709362c2e32df0ddc3f0dc47bba6390b6c73bb50f9c3122ec844ad7c2b3e5",
			"3cb25f25faacd57a90434f64d0362f2a2d2d0a90cf1a5a4c5db02d56ecc4c5bf34007208d5b887185865",
		},
		{
			ascending(0, 80), ascending(0x60, 80), ascending(0xb0, 80),
			"06a6b88c5853361a06104c9ceb35b45cef760014904671014a193f40c15fc244",
			"b11e398dc80327a1c8e7f78c596a49344f012eda2d4efad8a050cc4c19afa97c59045a99cac7827271cb41c65e590e09da3275600c2f09b8367793a9aca3db71cc30c58179ec3e87c14c01d5c1f3434f1d87",
		},
		{
			bytes.Repeat([]byte{0x0b}, 22), nil, nil,
			"19ef24a32c717b167f33a91d6f648bdf96596776afdb6377ac434c1c293ccb04",
			"8da4e775a563c18f715f802a063c5a31b8a11f5c5ee1879ec3454e5f3c738d2d9d201395faa4b61a96c8",
		},
	}
}

// extraction says how long a salt and a secret are.
type extraction struct{ salt, secret int }

// What is extracted from keyOf(salt) and pattern(secret), as another program (Python's hmac) computes it.
var extracted = map[extraction]string{
	{0, 0}:       "b613679a0814d9ec772f95d778c35fc5ff1697c493715653c6c712144292c5ad",
	{0, 1}:       "6620b31f2924b8c01547745f41825d322336f83ebb13d723678789d554d8a3ef",
	{0, 32}:      "46bd320605c5a6b6163ab70bc6345b92a5f908e79fe58979c23ebb47d1a5e307",
	{1, 0}:       "2f8738164025afdddbc18665c6e8f37de9498db7fd194873c61ee30c22192a9a",
	{7, 32}:      "c01fe0572de31ed30849dc6a6f97612e81027a3a3de00201cad6e376f330c0c3",
	{13, 22}:     "7f22cad73df5dc050d18f79c89e3a0fd72b82767d8de07cda6c5c7f8b749d825",
	{32, 0}:      "462476a897ddfdbd40d1420e08a5bcfeeb25c3e2ade6a0a9083b327b9ef9fca1",
	{63, 64}:     "1aa5410660e7a79c638f4173c578931366e4a33ecb586be34991e19703ec63d9",
	{64, 65}:     "9250a4c8c95dadb9c8cd9b575b6a7ebec659a13efaeb2d79483010d590ae2d45",
	{65, 0}:      "ebd84bceb8262de51405765765f6bc9d4dbe4cf6c6b940160b902b42c89bb118",
	{65, 32}:     "04aa259231e7bc808ab159f2cf2a92c02b4fe6b8b51fbc038b790663799fe113",
	{80, 80}:     "b6026df40ec0e9ed38e9bd59ce78a1e5e5ca0d034cc07045dbe4d8f0c530756e",
	{1000, 1000}: "f6f1fba54479e4ead7f309725973857495c689ed922da9c3475ef21ea038c42d",
}

// expansion says how long a key, an info and a result are.
type expansion struct{ prk, info, n int }

// The digests of what keyOf(prk) with the info pattern(info) is expanded into, as another program (Python's hmac) computes it.
var expanded = map[expansion]string{
	{0, 0, 1}:          "380918b946a526640a40df5dced6516794f3d97bbd9e6bb553d037c4439f31c3",
	{0, 0, 8160}:       "852f2e837d52f30247413aba6b545a1f63c45f9df1f3b5690ece0a971390a704",
	{32, 0, 32}:        "0369bed2b06ef4180e4b044846e0b719a13c7dc3fa6d11f157e0bc81435a6d3a",
	{32, 1, 33}:        "84eb539574995bad93db3bfcc865663a003ab25c42bc6fd03c36547be2c79090",
	{32, 10, 31}:       "c200600c956681d37bf9403687de3a41ede96aa460bc724103d09ecb5e10b355",
	{32, 10, 8160}:     "534d3cbb1fcdd54b0a2488d8906a1b1c9f26e25eff226fdee0b03b4bb300fb25",
	{32, 7, 16}:        "5070e22445ba3d0f3c80bdfb889a087da4742b87becb69f0d2198a311a9fcddb",
	{32, 55, 64}:       "0e9879d2b533199989d526d5b01c4c98a2b5c0a3cb98f7f120a47d63f3ddf39a",
	{32, 80, 65}:       "da8405616bea3fa8c6d1a811be5588c3c629745a0400e11cc5a88d5823bf1c08",
	{1, 200, 100}:      "8773e4bd4a099e4c8adcaafd27961e76b4ef87cecf2ad2f45fd5d34d92600bb5",
	{64, 3, 8159}:      "0536030e40435fb4056fa214375c17c1e8361da3824f93b6a21231b4672cfea8",
	{65, 3, 8160}:      "3a5412398abb73081888ff60e54f309411ceec6066dfe7bec23d3f5dca0eb91c",
	{131, 64, 96}:      "12ea14f0651798e8f88112ccf43b0c18a067311c9aa34ff4498d9ee8152d9796",
	{1000, 1000, 8160}: "45b66fbcd3e3057bc573088ef8794814b29b1550e2eaddf72479765243971887",
	{0, 5, 128}:        "69fdc7efb4f55df20111e5692aa089d2e3952f055810e98c7ff6ac8f39b87bec",
	{5, 0, 255}:        "daa2e08f0e8b3deb777ae68defb352a482f1b35793bf442a933b04ced4720fa9",
}

type volume struct{ master, enc, mac string }

// The keys of volumes, as another program (Python's hmac) computes them.
var volumes = []volume{
	{strings.Repeat("00", 32), "0c3ea19725e4a46a1ab2765e56b0c9aa", "e62f501558c2d64065402ee85d9cbed298e3df115031a4f2a02d781c63c742bd"},
	{strings.Repeat("ff", 32), "82fbc43c3e4ad4daafd4b3d1c8ccdda1", "1a9bc53393bdb60bfb5cdd21e28aedb0504fd4a86dd3914736cad5a68c8b42d2"},
	{"000102030405060708090a0b0c0d0e0f101112131415161718191a1b1c1d1e1f", "a2f5b3980361c212b8f16691c5e890de", "78a1110179ebcbbe96472250adadc7bec22fb0aaacd94f9f30d554e02d1fc9cf"},
	{"80" + strings.Repeat("00", 31), "992948be285c39821d26b45b5d5c7059", "b669a2aad6208ed097dcb8ce13e754b6989467559ad2ec399a9960f50c38ff54"},
	{strings.Repeat("00", 31) + "01", "95989993071ce4b413756e618fdeb005", "8cc4350bcaee6df006d5a80b683bcb5c32792e0188380814f5f99e14880eb7be"},
}

// ascending returns n bytes, each of them one more than the one before it.
func ascending(first byte, n int) []byte {
	b := make([]byte, n)
	for i := range b {
		b[i] = first + byte(i)
	}
	return b
}

// keyOf returns a key of n bytes, none of which is 00.
func keyOf(n int) []byte {
	b := make([]byte, n)
	for i := range b {
		b[i] = byte(i%250 + 1)
	}
	return b
}

// pattern returns n bytes whose period fits no block.
func pattern(n int) []byte {
	b := make([]byte, n)
	for i := range b {
		b[i] = byte(i % 251)
	}
	return b
}

func unhex(t *testing.T, text string) []byte {
	t.Helper()
	b, err := hex.DecodeString(text)
	if err != nil {
		t.Fatalf("%q: %v", text, err)
	}
	return b
}

// expand expands a key, and checks that this is accepted, and what every result has to be like.
func expand(t *testing.T, prk, info []byte, n int) []byte {
	t.Helper()
	got, e := derives.Expand(prk, info, n)
	if e != api.OK {
		t.Errorf("expanding into %d bytes: error %d", n, e)
	}
	if len(got) != n || cap(got) != n {
		t.Errorf("expanding into %d bytes: %d bytes with a capacity of %d", n, len(got), cap(got))
	}
	return got
}

// reference is what the chapter says about expanding, into 255 tags.
func reference(prk, info []byte) []byte {
	var all, last []byte
	for i := 1; i <= 255; i++ {
		tag := macs.Of(prk, slices.Concat(last, info, []byte{byte(i)}))
		last = tag[:]
		all = append(all, last...)
	}
	return all
}

// P4.1, P4.2
func TestExamples(t *testing.T) {
	for i, x := range examples() {
		prk, want := unhex(t, x.prk), unhex(t, x.expanded)
		if got := derives.Extract(x.salt, x.secret); !bytes.Equal(got[:], prk) {
			t.Errorf("example %d: extracted %x, want %x", i+1, got, prk)
		}
		if got := expand(t, prk, x.info, len(want)); !bytes.Equal(got, want) {
			t.Errorf("example %d: expanded into %x, want %x", i+1, got, want)
		}
	}
	x := examples()[0]
	expand(t, unhex(t, x.prk), x.info, 0)
	refuse(t, unhex(t, x.prk), x.info, -1, api.ErrArg)
	refuse(t, unhex(t, x.prk), x.info, 8161, api.ErrLimit)
}

// P4.1: lengths around that of the key block.
func TestExtractLengths(t *testing.T) {
	for n, text := range extracted {
		got, want := derives.Extract(keyOf(n.salt), pattern(n.secret)), unhex(t, text)
		if !bytes.Equal(got[:], want) {
			t.Errorf("a salt of %d bytes, a secret of %d: %x, want %x", n.salt, n.secret, got, want)
		}
	}
}

// P4.1: the salt is the key and the secret is the message, not the other way round.
func TestExtractIsTag(t *testing.T) {
	for salt := range 70 {
		for _, secret := range []int{0, 1, 22, 32, 64, 65, 200} {
			want := macs.Of(keyOf(salt), pattern(secret))
			if got := derives.Extract(keyOf(salt), pattern(secret)); got != want {
				t.Errorf("a salt of %d bytes, a secret of %d: %x, want %x", salt, secret, got, want)
			}
		}
	}
	if derives.Extract(keyOf(5), keyOf(6)) == derives.Extract(keyOf(6), keyOf(5)) {
		t.Error("the salt and the secret can be exchanged")
	}
}

// P4.1
func TestExtractOfNothing(t *testing.T) {
	want := api.Digest(unhex(t, extracted[extraction{0, 0}]))
	for _, salt := range [][]byte{nil, {}} {
		for _, secret := range [][]byte{nil, {}} {
			if got := derives.Extract(salt, secret); got != want {
				t.Errorf("extracted from nothing: %x, want %x", got, want)
			}
		}
	}
}

// P4.1, P4.4
func TestEmptySalt(t *testing.T) {
	for n := range 140 {
		secret := pattern(n)
		want := derives.Extract(make([]byte, 32), secret)
		if derives.Extract(nil, secret) != want || derives.Extract([]byte{}, secret) != want {
			t.Errorf("a secret of %d bytes: an empty salt is not as good as 32 bytes 00", n)
		}
		if derives.Extract([]byte{0, 1}, secret) == want {
			t.Errorf("a secret of %d bytes: another salt is as good as an empty one", n)
		}
	}
}

// P4.2
func TestExpandLengths(t *testing.T) {
	for x, text := range expanded {
		got := digests.Of(expand(t, keyOf(x.prk), pattern(x.info), x.n))
		if want := api.Digest(unhex(t, text)); got != want {
			t.Errorf("a key of %d bytes, an info of %d, expanded into %d: the digest is %x, want %x", x.prk, x.info, x.n, got, want)
		}
	}
}

// P4.2: the first tag and what follows it, with the bytes themselves.
func TestExpandAroundTags(t *testing.T) {
	want := unhex(t, "3d7afb663124ecbf2c953f863d4fc8796eeb2d372b64aad58697ec5264649cdb8e")
	for n := range 34 {
		if got := expand(t, nil, nil, n); !bytes.Equal(got, want[:n]) {
			t.Errorf("nothing expanded into %d bytes: %x, want %x", n, got, want[:n])
		}
	}
	all := expand(t, keyOf(32), pattern(10), 8160)
	first := unhex(t, "87ec7bc32f7f05b0ba121e76742d92aa72264839e8ef7c8e37dbfc3b9cc1e26d")
	last := unhex(t, "c61083ab40849f406f93ccad847d2e7e50b84046a3a4030a271c1b95638d62ea")
	if !bytes.Equal(all[:32], first) || !bytes.Equal(all[8160-32:], last) {
		t.Errorf("the first tag is %x and the last one is %x", all[:32], all[8160-32:])
	}
}

// P4.2, P4.4: all small numbers, and of the greater ones those around the ends of tags.
func TestExpandNumbers(t *testing.T) {
	prk, info := keyOf(32), pattern(10)
	all := reference(prk, info)
	if len(all) != derives.MaxBytes {
		t.Fatalf("MaxBytes is %d", derives.MaxBytes)
	}
	for n := range derives.MaxBytes + 1 {
		if n > 300 && n%32 > 1 && n%32 < 31 {
			continue
		}
		if got := expand(t, prk, info, n); !bytes.Equal(got, all[:n]) {
			t.Errorf("expanded into %d bytes: not the beginning that it has to be", n)
		}
	}
}

// P4.4: without the reference, so that only the results are compared.
func TestExpandBeginnings(t *testing.T) {
	numbers := []int{0, 1, 15, 16, 31, 32, 33, 63, 64, 65, 4096, 8127, 8128, 8129, 8159, 8160}
	for _, size := range []extraction{{0, 0}, {1, 0}, {0, 1}, {32, 7}, {64, 64}, {65, 100}} {
		var before []byte
		for _, n := range numbers {
			got := expand(t, keyOf(size.salt), pattern(size.secret), n)
			if !bytes.HasPrefix(got, before) {
				t.Errorf("a key of %d bytes, an info of %d: %d bytes are no beginning of %d", size.salt, size.secret, len(before), n)
			}
			before = got
		}
	}
}

// P4.2: no key, no info, or neither of them.
func TestExpandEmpty(t *testing.T) {
	empty := [][]byte{nil, {}}
	for _, n := range []int{0, 1, 31, 32, 33, 8160} {
		for _, prk := range [][]byte{{}, keyOf(1), keyOf(65)} {
			want := reference(prk, nil)[:n]
			for _, info := range empty {
				if got := expand(t, prk, info, n); !bytes.Equal(got, want) {
					t.Errorf("a key of %d bytes, no info, %d: %x, want %x", len(prk), n, got, want)
				}
			}
		}
		want := reference(nil, pattern(9))[:n]
		for _, prk := range empty {
			if got := expand(t, prk, pattern(9), n); !bytes.Equal(got, want) {
				t.Errorf("no key, %d: %x, want %x", n, got, want)
			}
		}
	}
}

// P4.2: what is expanded depends on the key and on the info, and on which of them is which.
func TestExpandDistinguishes(t *testing.T) {
	seen := map[string]string{}
	note := func(prk, info []byte) {
		got := string(expand(t, prk, info, 64))
		name := fmt.Sprintf("%x and %x", prk, info)
		if other, ok := seen[got]; ok {
			t.Errorf("expanding %s is expanding %s", name, other)
		}
		seen[got] = name
	}
	note([]byte("ab"), []byte("c"))
	note([]byte("a"), []byte("bc"))
	note([]byte("c"), []byte("ab"))
	note([]byte("abc"), nil)
	note(nil, []byte("abc"))
	note(nil, []byte{0})
	note(nil, []byte{1})
	note(nil, nil)
	for bit := range 256 {
		prk := make([]byte, 32)
		prk[bit/8] = 1 << (bit % 8)
		note(prk, []byte("x"))
		note([]byte("x"), prk)
	}
}

func refuse(t *testing.T, prk, info []byte, n int, want api.Errno) {
	t.Helper()
	got, e := derives.Expand(prk, info, n)
	if e != want {
		t.Errorf("expanding into %d bytes: error %d, want %d", n, e, want)
	}
	if len(got) != 0 {
		t.Errorf("expanding into %d bytes: %d bytes together with an error", n, len(got))
	}
}

// P4.2, R3
func TestExpandRefuses(t *testing.T) {
	for _, prk := range [][]byte{nil, {}, keyOf(1), keyOf(32), keyOf(100)} {
		for _, info := range [][]byte{nil, {}, pattern(10), pattern(10000)} {
			for _, n := range []int{-1, -2, -31, -32, -33, -8160, -8161, math.MinInt32, math.MinInt + 1, math.MinInt} {
				refuse(t, prk, info, n, api.ErrArg)
			}
			for _, n := range []int{8161, 8162, 8192, 8193, 1 << 16, 1 << 20, math.MaxInt32, math.MaxInt - 31, math.MaxInt - 1, math.MaxInt} {
				refuse(t, prk, info, n, api.ErrLimit)
			}
		}
	}
	if derives.MaxBytes != 8160 {
		t.Errorf("MaxBytes is %d", derives.MaxBytes)
	}
	expand(t, nil, nil, 8160)
}

// P4.3
func TestVolume(t *testing.T) {
	for _, x := range volumes {
		got := derives.Volume(api.Key(unhex(t, x.master)))
		if hex.EncodeToString(got.Enc[:]) != x.enc || hex.EncodeToString(got.Mac[:]) != x.mac {
			t.Errorf("the keys of %s are %x and %x, want %s and %s", x.master, got.Enc, got.Mac, x.enc, x.mac)
		}
	}
}

// P4.3: each single bit of the master key; the digest of all keys is known from another program (Python's hmac).
func TestVolumeOfEachBit(t *testing.T) {
	var all []byte
	seen := map[derives.Keys]bool{derives.Volume(api.Key{}): true}
	for bit := range 256 {
		var master api.Key
		master[bit/8] = 1 << (bit % 8)
		keys := derives.Volume(master)
		if seen[keys] {
			t.Errorf("bit %d of the master key has no part in the keys", bit)
		}
		seen[keys] = true
		all = append(append(all, keys.Enc[:]...), keys.Mac[:]...)
	}
	want := api.Digest(unhex(t, "582383adb6ced10b4c19181d7ca5a9914f22c52120cd4897841314dc5d9b2c6d"))
	if got := digests.Of(all); got != want {
		t.Errorf("the digest of the keys is %x, want %x", got, want)
	}
}

// P4.3: the keys are what the other functions of the layer make of the master key.
func TestVolumeIsExpanded(t *testing.T) {
	for n := range 256 {
		master := api.Key(ascending(byte(n), 32))
		prk := derives.Extract([]byte("caisson"), master[:])
		want := derives.Keys{
			Enc: [16]byte(expand(t, prk[:], []byte("encrypt"), 16)),
			Mac: api.Key(expand(t, prk[:], []byte("mac"), 32)),
		}
		if got := derives.Volume(master); got != want {
			t.Errorf("the keys of %x are %x, want %x", master, got, want)
		}
	}
}

// P4.1 to P4.3, R4: neither the arguments nor what stands behind their ends is modified.
func TestArgumentsAreNotModified(t *testing.T) {
	for _, n := range []int{0, 1, 22, 32, 63, 64, 65, 100} {
		a, b := keyOf(300), pattern(300)
		derives.Extract(a[:n], b[:n])
		for _, size := range []int{-1, 0, 1, 31, 32, 33, 8160, 8161} {
			derives.Expand(a[:n], b[:n], size)
		}
		master := api.Key(a[:32])
		derives.Volume(master)
		if !bytes.Equal(a, keyOf(300)) || !bytes.Equal(b, pattern(300)) || !bytes.Equal(master[:], a[:32]) {
			t.Errorf("arguments of %d bytes were modified: %x, %x, %x", n, a, b, master)
		}
		// What stands behind the ends has no part in the results, either.
		if derives.Extract(a[:n], b[:n]) != derives.Extract(keyOf(n), pattern(n)) {
			t.Errorf("extracted from the first %d bytes of longer strings: another result", n)
		}
		if !bytes.Equal(expand(t, a[:n], b[:n], 100), expand(t, keyOf(n), pattern(n), 100)) {
			t.Errorf("expanded from the first %d bytes of longer strings: another result", n)
		}
	}
}

// P4.2, R4: one string is both arguments here, so that sharing it would show in either of them.
func TestResultsAreNewMemory(t *testing.T) {
	for _, n := range []int{1, 31, 32, 33, 64, 8160} {
		both := keyOf(40)
		first := expand(t, both, both, n)
		want := reference(keyOf(40), keyOf(40))[:n]
		second := expand(t, both, both, n)
		clear(second)
		clear(both)
		if !bytes.Equal(first, want) {
			t.Errorf("%d bytes: a result shares memory with another one or with an argument", n)
		}
		if again := expand(t, keyOf(40), keyOf(40), n); !bytes.Equal(again, want) {
			t.Errorf("%d bytes: something is kept from one call to the next", n)
		}
		if !bytes.Equal(both, make([]byte, 40)) {
			t.Errorf("%d bytes: an argument shares memory with a result", n)
		}
	}
}

// P4.1, P4.3, R5: nothing is kept from one call to the next.
func TestCallsAreIndependent(t *testing.T) {
	master := api.Key(keyOf(32))
	keys, prk := derives.Volume(master), derives.Extract(keyOf(7), keyOf(8))
	derives.Volume(api.Key{})
	derives.Extract(nil, nil)
	derives.Expand(nil, nil, 9000)
	if derives.Volume(master) != keys || derives.Extract(keyOf(7), keyOf(8)) != prk {
		t.Error("a call has changed the results of others")
	}
}
