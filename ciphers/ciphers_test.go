package ciphers_test

import (
	"encoding/hex"
	"slices"
	"sync"
	"testing"

	"caisson/ciphers"
	"caisson/fields"
)

// How often the tests with many keys, blocks and round keys repeat what they do.
const often = 500

// The keys of the examples of FIPS 197.
const (
	countedKey = "000102030405060708090a0b0c0d0e0f"
	secondKey  = "2b7e151628aed2a6abf7158809cf4f3c"
)

// All round keys of some keys. Those of the first two keys are those of FIPS 197 (A.1 and C.1); another program (Python) computes the others word by word.
var schedules = []string{
	"2b7e151628aed2a6abf7158809cf4f3c" + "a0fafe1788542cb123a339392a6c7605" + "f2c295f27a96b9435935807a7359f67f" +
		"3d80477d4716fe3e1e237e446d7a883b" + "ef44a541a8525b7fb671253bdb0bad00" + "d4d1c6f87c839d87caf2b8bc11f915bc" +
		"6d88a37a110b3efddbf98641ca0093fd" + "4e54f70e5f5fc9f384a64fb24ea6dc4f" + "ead27321b58dbad2312bf5607f8d292f" +
		"ac7766f319fadc2128d12941575c006e" + "d014f9a8c9ee2589e13f0cc8b6630ca6",
	"000102030405060708090a0b0c0d0e0f" + "d6aa74fdd2af72fadaa678f1d6ab76fe" + "b692cf0b643dbdf1be9bc5006830b3fe" +
		"b6ff744ed2c2c9bf6c590cbf0469bf41" + "47f7f7bc95353e03f96c32bcfd058dfd" + "3caaa3e8a99f9deb50f3af57adf622aa" +
		"5e390f7df7a69296a7553dc10aa31f6b" + "14f9701ae35fe28c440adf4d4ea9c026" + "47438735a41c65b9e016baf4aebf7ad2" +
		"549932d1f08557681093ed9cbe2c974e" + "13111d7fe3944a17f307a78b4d2b30c5",
	"00000000000000000000000000000000" + "62636363626363636263636362636363" + "9b9898c9f9fbfbaa9b9898c9f9fbfbaa" +
		"90973450696ccffaf2f457330b0fac99" + "ee06da7b876a1581759e42b27e91ee2b" + "7f2e2b88f8443e098dda7cbbf34b9290" +
		"ec614b851425758c99ff09376ab49ba7" + "217517873550620bacaf6b3cc61bf09b" + "0ef903333ba9613897060a04511dfa9f" +
		"b1d4d8e28a7db9da1d7bb3de4c664941" + "b4ef5bcb3e92e21123e951cf6f8f188e",
	"ffffffffffffffffffffffffffffffff" + "e8e9e9e917161616e8e9e9e917161616" + "adaeae19bab8b80f525151e6454747f0" +
		"090e2277b3b69a78e1e7cb9ea4a08c6e" + "e16abd3e52dc2746b33becd8179b60b6" + "e5baf3ceb766d488045d385013c658e6" +
		"71d07db3c6b6a93bc2eb916bd12dc98d" + "e90d208d2fbb89b6ed5018dd3c7dd150" + "96337366b988fad054d8e20d68a5335d" +
		"8bf03f233278c5f366a027fe0e0514a3" + "d60a3588e472f07b82d2d7858cd7c326",
	"80000000000000000000000000000000" + "e2636363e2636363e2636363e2636363" + "1b9898fbf9fbfb981b9898fbf9fbfb98" +
		"1097de62e96c25faf2f4bd010b0f4699" + "6ecd304987a115b37555a8b27e5aee2b" + "c0e5c1ba4744d40932117cbb4c4b9290" +
		"53aaa19314ee759a26ff09216ab49bb1" + "9ebe69918a501c0bacaf152ac61b8e9b" + "b1a77d253bf7612e975874045143fa9f" +
		"b08aa6f48b7dc7da1c25b3de4d664941" + "b5b125173ecce2cd22e951136f8f1852",
	"00000000000000000000000000000001" + "62637c6362637c6362637c6362637c62" + "9b73d6c9f910aaaa9b73d6c9f910aaab" +
		"55dfb450accf1efa37bcc833ceac6298" + "cc75f2db60baec215706241299aa468a" + "702f8c351095601447934406de39028c" +
		"4258e82852cd883c155ecc3acb67ceb6" + "87d3a637d51e2e0bc040e2310b272c87" + "cba2b11c1ebc9f17defc7d26d5db51a1" +
		"6973831f77cf1c08a933612e7ce8308f" + "c477f00fb3b8ec071a8b8d296663bda6",
}

type example struct{ key, plain, encrypted string }

// Examples of FIPS 197 and of SP 800-38A (F.1.1); and keys and blocks of equal bytes, as another program (OpenSSL) encrypts them.
var examples = []example{
	{countedKey, "00112233445566778899aabbccddeeff", "69c4e0d86a7b0430d8cdb78070b4c55a"},
	{secondKey, "3243f6a8885a308d313198a2e0370734", "3925841d02dc09fbdc118597196a0b32"},
	{secondKey, "6bc1bee22e409f96e93d7e117393172a", "3ad77bb40d7a3660a89ecaf32466ef97"},
	{secondKey, "ae2d8a571e03ac9c9eb76fac45af8e51", "f5d3d58503b9699de785895a96fdbaaf"},
	{secondKey, "30c81c46a35ce411e5fbc1191a0a52ef", "43b1cd7f598ece23881b00e3ed030688"},
	{secondKey, "f69f2445df4f9b17ad2b417be66c3710", "7b0c785e27e8ad3f8223207104725dd4"},
	{"00000000000000000000000000000000", "00000000000000000000000000000000", "66e94bd4ef8a2c3b884cfa59ca342b2e"},
	{"00000000000000000000000000000000", "01010101010101010101010101010101", "e14d5d0ee27715df08b4152ba23da8e0"},
	{"00000000000000000000000000000000", "80808080808080808080808080808080", "356597dcce869537ab2d0ca4ba1d6c75"},
	{"00000000000000000000000000000000", "ffffffffffffffffffffffffffffffff", "3f5b8cc9ea855a0afa7347d23e8d664e"},
	{"01010101010101010101010101010101", "00000000000000000000000000000000", "b6aeaffa752dc08b51639731761aed00"},
	{"01010101010101010101010101010101", "01010101010101010101010101010101", "5e77e59f8f85943489a24149c75f4ec9"},
	{"53535353535353535353535353535353", "53535353535353535353535353535353", "0bb3d8e000fec518a0563f13baeef48d"},
	{"53535353535353535353535353535353", "80808080808080808080808080808080", "cd867bbaca28a341fb657152d38c2534"},
	{"80808080808080808080808080808080", "00000000000000000000000000000000", "fde28a53c02934bc4b5283f6bb27ab83"},
	{"80808080808080808080808080808080", "53535353535353535353535353535353", "cca2d6bce326541cce49f3df8081bca7"},
	{"ffffffffffffffffffffffffffffffff", "00000000000000000000000000000000", "a1f6258c877d5fcd8964484538bfc92c"},
	{"ffffffffffffffffffffffffffffffff", "01010101010101010101010101010101", "63d6abb3468228df3c52850700e10e3a"},
	{"ffffffffffffffffffffffffffffffff", "ffffffffffffffffffffffffffffffff", "bcbf217cb280cf30b2517052193ab979"},
}

type single struct {
	bit                   int
	encrypted, withKeyBit string
}

// What a block with a single bit is encrypted to with a key of zeros, and a block of zeros with a key with that bit, as another program (OpenSSL) encrypts them. The bit 0 is the first one.
var singles = []single{
	{0, "3ad78e726c1ec02b7ebfe92b23d9ec34", "0edd33d3c621e546455bd8ba1418bec8"},
	{1, "45bc707d29e8204d88dfba2f0b0cad9b", "c0cc0c5da5bd63acd44a80774fad5222"},
	{7, "47711816e91d6ff059bbbf2bf58e0fd3", "dc0ed85df9611abb7249cdd168c5467e"},
	{8, "b970dfbe40698af1638fe38bd3df3b2f", "807d678fff1f56fa92de3381904842f2"},
	{15, "fa321cf18ef5fe727dd82a5c1e945141", "b3a575e86a8db4a7135d604c43304896"},
	{31, "ee944b2fe6e9fc888042608da9615f75", "80df436544b0dd596722e46792a40cd8"},
	{32, "9e7c85a909ef7218ba7947cfb4718f46", "525daf18f93e83e1e74bbbdde4263bba"},
	{63, "788bcd111ecf73d4e78d2e21bef55460", "f6b7bdd1caeebab574683893c4475484"},
	{64, "909cd9ec6790359f982dc6f2393d5315", "a920e37cc6dc6b31da8c0169569f5034"},
	{95, "72535b7fe0f0f777cedcd55cd77e2ddf", "d16e04a8fbc435094f8d53adf25f5084"},
	{96, "3423d8efc31fa2f4c365c77d8f3b5c63", "ef13dc34bab03e124eead8b6bf44b532"},
	{119, "fb56cc09b680b1d07c5a52149e29f07c", "21cea416a3d3359d2c4d58fb6a035f06"},
	{120, "ff49b8df4a97cbe03833e66197620dad", "172aeab3d507678ecaf455c12587adb7"},
	{126, "0388dace60b6a392f328c2b971b2fe78", "26d50f485a30408d5af47a5736292450"},
	{127, "58e2fccefa7e3061367f1d57a4e7455a", "0545aad56da2a97c3663d1432a3d1c84"},
}

// The blocks that are encrypted with round keys of no key.
var plains = []string{
	"00000000000000000000000000000000",
	"ffffffffffffffffffffffffffffffff",
	countedKey,
	"6bc1bee22e409f96e93d7e117393172a",
}

type noKey struct {
	name      string
	byteOf    func(k, i int) byte // the byte i of the round key k
	encrypted []string            // plains
}

// noKeys returns round keys that are those of no key, and what another program (Python) encrypts plains to with them.
func noKeys() []noKey {
	return []noKey{
		{"zeros", func(k, i int) byte { return 0 },
			[]string{"36363636363636363636363636363636", "cececececececececececececececece", "189d19eadba7e30ed972808f3f2ba030", "92e63835ae00d04e6602c313b09e7dc8"}},
		{"all bits", func(k, i int) byte { return 0xff },
			[]string{"14141414141414141414141414141414", "4c4c4c4c4c4c4c4c4c4c4c4c4c4c4c4c", "bef48b1fe6dd9b89ccc1e7cf38db1a70", "a837780e77103f98ddca1eef1e022351"}},
		{"equal bytes", func(k, i int) byte { return 0x53 },
			[]string{"6b6b6b6b6b6b6b6b6b6b6b6b6b6b6b6b", "b4b4b4b4b4b4b4b4b4b4b4b4b4b4b4b4", "73af15193404a341281bbfe7412b9320", "f4b30030909de239e880f8a6e74740ec"}},
		{"counted", func(k, i int) byte { return byte(16*k + i) },
			[]string{"3f4158a9ce2bf0d70025edb459d7c9eb", "76ee81e1f131379fe30f003a0daa1e22", "3323ea8fbacb7413247b508507b476af", "a279006f24373e889c82d45438b5dcba"}},
		{"squares", func(k, i int) byte { return byte((16*k + i) * (16*k + i) * 7 % 251) },
			[]string{"d08784a62d8e7a796a7cf368cdc7484d", "190b923abcd90e65fa8d5ce9780e02f0", "90774f0011a34ba5f41da4e661e4da09", "9d7f7fa534bce2e866a357d471a74361"}},
		{"first byte", only(0, 0, 0x01),
			[]string{"1bb2247e49ca5269619c339b942e0f17", "3033861aca4cfc4b6dd82aabe43fafad", "3ac5fafae023583b61497c9561a2daa2", "787240a65718e4ab4fb346412e324288"}},
		{"middle byte", only(5, 6, 0xff),
			[]string{"4b6ae3c535166b8dc3c7217a19dbc42c", "bacc224ab8fcfe9f82131582a8ff6070", "f1745166135303e954a4cd8141c48eb2", "f0af95ae5a199dba6f556d44b04de373"}},
		{"last byte", only(10, 15, 0x80),
			[]string{"363636363636363636363636363636b6", "cecececececececececececececece4e", "189d19eadba7e30ed972808f3f2ba0b0", "92e63835ae00d04e6602c313b09e7d48"}},
	}
}

// only returns round keys of zeros with a single other byte.
func only(round, at int, value byte) func(k, i int) byte {
	return func(k, i int) byte {
		if k == round && i == at {
			return value
		}
		return 0
	}
}

func (n noKey) schedule() ciphers.Schedule {
	var s ciphers.Schedule
	for k := range s {
		for i := range s[k] {
			s[k][i] = n.byteOf(k, i)
		}
	}
	return s
}

func block(t *testing.T, text string) [16]byte {
	t.Helper()
	b, err := hex.DecodeString(text)
	if err != nil || len(b) != 16 {
		t.Fatalf("%q: %d bytes, %v", text, len(b), err)
	}
	return [16]byte(b)
}

func schedule(t *testing.T, text string) ciphers.Schedule {
	t.Helper()
	var s ciphers.Schedule
	for k := range s {
		s[k] = block(t, text[32*k:32*k+32])
	}
	return s
}

func bit(i int) [16]byte {
	var b [16]byte
	b[i/8] = 0x80 >> (i % 8)
	return b
}

func sum(a, b [16]byte) [16]byte {
	for i := range a {
		a[i] ^= b[i]
	}
	return a
}

// numbers are bytes that seem to be random, but are the same ones each time.
type numbers uint64

func (n *numbers) next() byte {
	*n = *n*6364136223846793005 + 1442695040888963407
	return byte(*n >> 56)
}

func (n *numbers) block() [16]byte {
	var b [16]byte
	for i := range b {
		b[i] = n.next()
	}
	return b
}

func (n *numbers) schedule() ciphers.Schedule {
	var s ciphers.Schedule
	for k := range s {
		s[k] = n.block()
	}
	return s
}

// words is what the chapter says about the round keys, word by word.
func words(key [16]byte) ciphers.Schedule {
	var w [44][4]byte
	for i := range w {
		if i < 4 {
			w[i] = [4]byte(key[4*i:])
			continue
		}
		before := w[i-1]
		if i%4 == 0 {
			before = [4]byte{before[1], before[2], before[3], before[0]}
			for r, a := range before {
				before[r] = fields.Sub(a)
			}
			before[0] ^= fields.Power(2, i/4-1)
		}
		for r := range 4 {
			w[i][r] = w[i-4][r] ^ before[r]
		}
	}
	var s ciphers.Schedule
	for i, word := range w {
		copy(s[i/4][4*(i%4):], word[:])
	}
	return s
}

// grid is a state by its rows and columns.
type grid [4][4]byte

func gridOf(b [16]byte) grid {
	var g grid
	for i, a := range b {
		g[i%4][i/4] = a
	}
	return g
}

func (g grid) block() [16]byte {
	var b [16]byte
	for i := range b {
		b[i] = g[i%4][i/4]
	}
	return b
}

// each returns the grid whose bytes a function makes.
func each(at func(r, c int) byte) grid {
	var g grid
	for r := range 4 {
		for c := range 4 {
			g[r][c] = at(r, c)
		}
	}
	return g
}

func (g grid) add(h grid) grid {
	return each(func(r, c int) byte { return g[r][c] ^ h[r][c] })
}

// mixed returns the grid with its columns changed.
func (g grid) mixed() grid {
	return each(func(r, c int) byte {
		return fields.Mul(2, g[r][c]) ^ fields.Mul(3, g[(r+1)%4][c]) ^ g[(r+2)%4][c] ^ g[(r+3)%4][c]
	})
}

// encrypted is what the chapter says about encrypting, step by step.
func encrypted(s ciphers.Schedule, b [16]byte) [16]byte {
	g := gridOf(b).add(gridOf(s[0]))
	for round := 1; round <= 10; round++ {
		substituted := each(func(r, c int) byte { return fields.Sub(g[r][c]) })
		g = each(func(r, c int) byte { return substituted[r][(c+r)%4] })
		if round != 10 {
			g = g.mixed()
		}
		g = g.add(gridOf(s[round]))
	}
	return g.block()
}

// P6.1: all round keys of some keys, among them the chapter's example, and keys of zeros, of all bits and with a single bit.
func TestExpandExamples(t *testing.T) {
	for _, text := range schedules {
		want := schedule(t, text)
		got := ciphers.Expand(want[0])
		for k := range got {
			if got[k] != want[k] {
				t.Errorf("Expand(%x): round key %d is %x, want %x", want[0], k, got[k], want[k])
			}
		}
	}
}

// P6.1: the chapter's example, by itself.
func TestExpandSecondKey(t *testing.T) {
	got := ciphers.Expand(block(t, secondKey))
	if want := block(t, "a0fafe1788542cb123a339392a6c7605"); got[1] != want {
		t.Errorf("round key 1 is %x, want %x", got[1], want)
	}
	if want := block(t, "d014f9a8c9ee2589e13f0cc8b6630ca6"); got[10] != want {
		t.Errorf("round key 10 is %x, want %x", got[10], want)
	}
}

// P6.1: the round keys of keys of equal bytes, of keys with a single bit, and of many others are those that the chapter defines word by word.
func TestExpandWords(t *testing.T) {
	var keys [][16]byte
	for v := range 256 {
		var b [16]byte
		for i := range b {
			b[i] = byte(v)
		}
		keys = append(keys, b)
	}
	for i := range 128 {
		keys = append(keys, bit(i))
	}
	n := numbers(61)
	for range often {
		keys = append(keys, n.block())
	}
	for _, key := range keys {
		if got, want := ciphers.Expand(key), words(key); got != want {
			t.Errorf("Expand(%x) = %x, want %x", key, got, want)
		}
	}
}

// P6.2, P6.3: the chapter's examples and those of SP 800-38A; keys and blocks of zeros and of equal bytes.
func TestExamples(t *testing.T) {
	for _, e := range examples {
		s := ciphers.Expand(block(t, e.key))
		plain, want := block(t, e.plain), block(t, e.encrypted)
		if got := s.Encrypt(plain); got != want {
			t.Errorf("key %s: Encrypt(%x) = %x, want %x", e.key, plain, got, want)
		}
		if got := s.Decrypt(want); got != plain {
			t.Errorf("key %s: Decrypt(%x) = %x, want %x", e.key, want, got, plain)
		}
	}
}

// P6.2, P6.3: blocks and keys with a single bit.
func TestSingleBits(t *testing.T) {
	var zeros [16]byte
	for _, x := range singles {
		for _, c := range []struct {
			key, plain [16]byte
			encrypted  string
		}{
			{zeros, bit(x.bit), x.encrypted},
			{bit(x.bit), zeros, x.withKeyBit},
		} {
			s, want := ciphers.Expand(c.key), block(t, c.encrypted)
			if got := s.Encrypt(c.plain); got != want {
				t.Errorf("key %x: Encrypt(%x) = %x, want %x", c.key, c.plain, got, want)
			}
			if got := s.Decrypt(want); got != c.plain {
				t.Errorf("key %x: Decrypt(%x) = %x, want %x", c.key, want, got, c.plain)
			}
		}
	}
}

// P6.2, P6.3: round keys that are those of no key, among them all zeros.
func TestRoundKeysOfNoKey(t *testing.T) {
	for _, n := range noKeys() {
		s := n.schedule()
		for i, text := range n.encrypted {
			plain, want := block(t, plains[i]), block(t, text)
			if got := s.Encrypt(plain); got != want {
				t.Errorf("%s: Encrypt(%x) = %x, want %x", n.name, plain, got, want)
			}
			if got := s.Decrypt(want); got != plain {
				t.Errorf("%s: Decrypt(%x) = %x, want %x", n.name, want, got, plain)
			}
		}
	}
}

// P6.2, P6.3: the zero value of a Schedule is one with round keys of zeros.
func TestZeroSchedule(t *testing.T) {
	var s ciphers.Schedule
	want := block(t, "36363636363636363636363636363636")
	if got := s.Encrypt([16]byte{}); got != want {
		t.Errorf("Encrypt of zeros is %x, want %x", got, want)
	}
	if got := s.Decrypt(want); got != [16]byte{} {
		t.Errorf("Decrypt(%x) = %x, want zeros", want, got)
	}
}

// P6.1 to P6.3: a thousand blocks, each the encryption of the one before, without and with a change of the key, as another program (OpenSSL) encrypts them; and the way back.
func TestChains(t *testing.T) {
	const length = 1000
	s := ciphers.Expand(block(t, countedKey))
	var b [16]byte
	for range length {
		b = s.Encrypt(b)
	}
	if want := block(t, "1fd09ae87c7258990cc56156460ff206"); b != want {
		t.Errorf("with one key: %x, want %x", b, want)
	}
	for range length {
		b = s.Decrypt(b)
	}
	if b != [16]byte{} {
		t.Errorf("with one key, and back: %x, want zeros", b)
	}

	firstKey, firstBlock := block(t, countedKey), block(t, "101112131415161718191a1b1c1d1e1f")
	key, b := firstKey, firstBlock
	for range length {
		key, b = b, ciphers.Expand(key).Encrypt(b)
	}
	if want := block(t, "d7ea652207318f84b4526461218d481c"); b != want {
		t.Errorf("with many keys: %x, want %x", b, want)
	}
}

// P6.2: what blocks are encrypted to is what the chapter defines step by step, for many keys and for many round keys of no key.
func TestEncryptStepByStep(t *testing.T) {
	n := numbers(62)
	for range often {
		plain := n.block()
		for _, s := range []ciphers.Schedule{ciphers.Expand(n.block()), n.schedule()} {
			if got, want := s.Encrypt(plain), encrypted(s, plain); got != want {
				t.Fatalf("round keys %x: Encrypt(%x) = %x, want %x", s, plain, got, want)
			}
		}
	}
}

// P6.3: the block that Decrypt returns is one that the steps of the chapter encrypt to the given one.
func TestDecryptStepByStep(t *testing.T) {
	n := numbers(63)
	for range often {
		b := n.block()
		for _, s := range []ciphers.Schedule{ciphers.Expand(n.block()), n.schedule()} {
			if got := s.Decrypt(b); encrypted(s, got) != b {
				t.Fatalf("round keys %x: Decrypt(%x) = %x, which is encrypted to %x", s, b, got, encrypted(s, got))
			}
		}
	}
}

// P6.2: a change of the round key 0 is the same as that change of the block; a change of the round key 10 is the same as that change of the result.
func TestFirstAndLastRoundKey(t *testing.T) {
	n := numbers(64)
	for range often {
		s, plain, change := n.schedule(), n.block(), n.block()
		first, final := s, s
		first[0], final[10] = sum(s[0], change), sum(s[10], change)
		if got, want := first.Encrypt(plain), s.Encrypt(sum(plain, change)); got != want {
			t.Errorf("round key 0 changed: %x, want %x", got, want)
		}
		if got, want := final.Encrypt(plain), sum(s.Encrypt(plain), change); got != want {
			t.Errorf("round key 10 changed: %x, want %x", got, want)
		}
	}
}

// rotated returns the place to which the byte i of a block comes when the rows are rotated.
func rotated(i int) int {
	r, c := i%4, i/4
	return 4*((c-r+4)%4) + r
}

// P6.2: a byte of the state before round 10 changes the byte of its rotated place, and no other one: its row is rotated by as many places as its number, and no column is changed in round 10.
func TestLastRound(t *testing.T) {
	n := numbers(65)
	for i := range 16 {
		for d := 1; d < 256; d++ {
			s, plain := n.schedule(), n.block()
			want := s.Encrypt(plain)
			at := rotated(i)
			before := fields.Back(want[at] ^ s[10][at])
			want[at] = fields.Sub(before^byte(d)) ^ s[10][at]
			s[9][i] ^= byte(d)
			if got := s.Encrypt(plain); got != want {
				t.Fatalf("byte %d before round 10, changed by %x: %x, want %x", i, d, got, want)
			}
		}
	}
}

// P6.2: the places of all bytes after the rows are rotated, written down.
func TestRotatedPlaces(t *testing.T) {
	var s ciphers.Schedule
	plain := s.Encrypt([16]byte{})
	places := [16]int{0, 13, 10, 7, 4, 1, 14, 11, 8, 5, 2, 15, 12, 9, 6, 3}
	for i, want := range places {
		changed := s
		changed[9][i] = 1
		got := changed.Encrypt([16]byte{})
		for at := range got {
			if (got[at] != plain[at]) != (at == want) {
				t.Errorf("byte %d before round 10, changed: %x instead of %x; want a change of byte %d alone", i, got, plain, want)
				break
			}
		}
	}
}

// P6.2: a byte of the state before round 9 changes the column of its rotated place, by 2, 1, 1 and 3 times the change from its row on.
func TestColumns(t *testing.T) {
	// What is there before round 10 but for the round key 9 is found from the result, because round 10 changes no column.
	before := func(s ciphers.Schedule, plain [16]byte) [16]byte {
		b := sum(s.Encrypt(plain), s[10])
		var back [16]byte
		for i := range back {
			back[i] = fields.Back(b[rotated(i)])
		}
		return back
	}
	n := numbers(66)
	for i := range 16 {
		for d := 1; d < 256; d++ {
			s, plain := n.schedule(), n.block()
			changed := s
			changed[8][i] ^= byte(d)
			got := sum(before(changed, plain), before(s, plain))
			r, c := i%4, rotated(i)/4
			change := got[4*c+(r+2)%4]
			var want [16]byte
			for k, factor := range []byte{2, 1, 1, 3} {
				// The row r has twice the change; the row above it, which is 3 rows further on, has it three times.
				want[4*c+(r+k)%4] = fields.Mul(factor, change)
			}
			if got != want || change == 0 {
				t.Fatalf("byte %d before round 9, changed by %x: the change before round 10 is %x, want %x", i, d, got, want)
			}
		}
	}
}

// P6.2, P6.3: every byte of every round key counts.
func TestEveryRoundKeyCounts(t *testing.T) {
	n := numbers(67)
	s, b := n.schedule(), n.block()
	seen := map[[16]byte]bool{s.Encrypt(b): true}
	back := map[[16]byte]bool{s.Decrypt(b): true}
	for k := range s {
		for i := range s[k] {
			changed := s
			changed[k][i] ^= 0x10
			seen[changed.Encrypt(b)] = true
			back[changed.Decrypt(b)] = true
		}
	}
	if want := 1 + 11*16; len(seen) != want || len(back) != want {
		t.Errorf("%d and %d different blocks, want %d", len(seen), len(back), want)
	}
}

// P6.4: Decrypt inverts Encrypt, and Encrypt inverts Decrypt, for round keys.
func inverts(t *testing.T, s ciphers.Schedule, b [16]byte) {
	t.Helper()
	if got := s.Decrypt(s.Encrypt(b)); got != b {
		t.Errorf("round keys %x: Decrypt(Encrypt(%x)) = %x", s, b, got)
	}
	if got := s.Encrypt(s.Decrypt(b)); got != b {
		t.Errorf("round keys %x: Encrypt(Decrypt(%x)) = %x", s, b, got)
	}
}

// P6.4: many keys, many round keys of no key, and many blocks.
func TestInverses(t *testing.T) {
	n := numbers(68)
	for range often {
		b := n.block()
		inverts(t, ciphers.Expand(n.block()), b)
		inverts(t, n.schedule(), b)
	}
}

// P6.4: blocks of equal bytes, and keys and blocks with a single bit, also with round keys of zeros and of other ones of no key.
func TestInversesOfFewBits(t *testing.T) {
	all := []ciphers.Schedule{ciphers.Expand([16]byte{})}
	for _, n := range noKeys() {
		all = append(all, n.schedule())
	}
	for _, s := range all {
		for v := range 256 {
			inverts(t, s, [16]byte(slices.Repeat([]byte{byte(v)}, 16)))
		}
		for i := range 128 {
			inverts(t, s, bit(i))
		}
	}
	for i := range 128 {
		inverts(t, ciphers.Expand(bit(i)), bit(127-i))
	}
}

// P6.4: no two blocks are encrypted, or decrypted, to the same one.
func TestDifferentBlocks(t *testing.T) {
	n := numbers(69)
	for _, s := range []ciphers.Schedule{{}, ciphers.Expand(n.block()), n.schedule()} {
		forth, back := map[[16]byte]bool{}, map[[16]byte]bool{}
		for i := range 16 {
			for v := 1; v < 256; v++ {
				var b [16]byte
				b[i] = byte(v)
				forth[s.Encrypt(b)], back[s.Decrypt(b)] = true, true
			}
		}
		if want := 16 * 255; len(forth) != want || len(back) != want {
			t.Errorf("%d and %d different blocks, want %d", len(forth), len(back), want)
		}
	}
}

// P6.1 to P6.3: the key, the round keys and the block are as they were, and so are results when they are used.
func TestArgumentsStay(t *testing.T) {
	n := numbers(70)
	key, b := n.block(), n.block()
	keyBefore, blockBefore := key, b
	s := ciphers.Expand(key)
	before := s
	first := s.Encrypt(b)
	firstBefore := first
	s.Decrypt(first)
	s.Decrypt(b)
	if key != keyBefore || b != blockBefore || s != before || first != firstBefore {
		t.Error("a call changed what it was given")
	}
	other := ciphers.Expand(key)
	for k := range other {
		clear(other[k][:])
	}
	if s != before || ciphers.Expand(key) != before {
		t.Error("round keys share memory with others")
	}
}

type results struct {
	schedule             ciphers.Schedule
	encrypted, decrypted [16]byte
}

// P6.1 to P6.3: a result does not depend on the calls before, or on those at the same time.
func TestCallsAreIndependent(t *testing.T) {
	work := func(i int) results {
		n := numbers(i)
		s := ciphers.Expand(n.block())
		return results{s, s.Encrypt(n.block()), s.Decrypt(n.block())}
	}
	var first, again [64]results
	for i := range first {
		first[i] = work(i)
	}
	var group sync.WaitGroup
	for i := range again {
		group.Add(1)
		go func() {
			defer group.Done()
			again[63-i] = work(63 - i)
		}()
	}
	group.Wait()
	if first != again {
		t.Error("the same calls returned different results")
	}
}
