package fields_test

import (
	"encoding/hex"
	"fmt"
	"math"
	"sync"
	"testing"

	"caisson/fields"
)

// The substitutes of all bytes, as FIPS 197 lists them.
const substitutes = "" +
	"637c777bf26b6fc53001672bfed7ab76ca82c97dfa5947f0add4a2af9ca472c0" +
	"b7fd9326363ff7cc34a5e5f171d8311504c723c31896059a071280e2eb27b275" +
	"09832c1a1b6e5aa0523bd6b329e32f8453d100ed20fcb15b6acbbe394a4c58cf" +
	"d0efaafb434d338545f9027f503c9fa851a3408f929d38f5bcb6da2110fff3d2" +
	"cd0c13ec5f974417c4a77e3d645d197360814fdc222a908846eeb814de5e0bdb" +
	"e0323a0a4906245cc2d3ac629195e479e7c8376d8dd54ea96c56f4ea657aae08" +
	"ba78252e1ca6b4c6e8dd741f4bbd8b8a703eb5664803f60e613557b986c11d9e" +
	"e1f8981169d98e949b1e87e9ce5528df8ca1890dbfe6426841992d0fb054bb16"

// The bytes whose substitutes all bytes are, as FIPS 197 lists them.
const originals = "" +
	"52096ad53036a538bf40a39e81f3d7fb7ce339829b2fff87348e4344c4dee9cb" +
	"547b9432a6c2233dee4c950b42fac34e082ea16628d924b2765ba2496d8bd125" +
	"72f8f66486689816d4a45ccc5d65b6926c704850fdedb9da5e154657a78d9d84" +
	"90d8ab008cbcd30af7e45805b8b34506d02c1e8fca3f0f02c1afbd0301138a6b" +
	"3a9111414f67dcea97f2cfcef0b4e67396ac7422e7ad3585e2f937e81c75df6e" +
	"47f11a711d29c5896fb7620eaa18be1bfc563e4bc6d279209adbc0fe78cd5af4" +
	"1fdda8338807c731b11210592780ec5f60517fa919b54a0d2de57a9f93c99cef" +
	"a0e03b4dae2af5b0c8ebbb3c83539961172b047eba77d626e169146355210c7d"

// The elements whose powers the table lists.
const bases = "000102031b5380bdfeff"

type row struct {
	n      int
	powers string // of the bases
}

// Powers, as another program (Python) computes them by multiplying, without any remainder.
var powers = []row{
	{0, "01010101010101010101"},
	{1, "000102031b5380bdfeff"},
	{-1, "00018df6ccca83bc411c"},
	{2, "000104055eb59abc1213"},
	{-2, "0001cb5261759fbdaa4b"},
	{7, "000180ff209ecbbd48f5"},
	{8, "00011b1a4d1620bc4e4f"},
	{-8, "0001ccfd25603abde909"},
	{85, "0001bdbdbc01bdbdbdbd"},
	{51, "0001010c01ed01015050"},
	{127, "00017da0748c6abd09e9"},
	{128, "0001fafb10f791bc4f4e"},
	{-128, "00017da0748c6abd09e9"},
	{254, "00018df6ccca83bc411c"},
	{-254, "000102031b5380bdfeff"},
	{255, "00010101010101010101"},
	{-255, "00010101010101010101"},
	{256, "000102031b5380bdfeff"},
	{-256, "00018df6ccca83bc411c"},
	{509, "00018df6ccca83bc411c"},
	{510, "00010101010101010101"},
	{-510, "00010101010101010101"},
	{1000, "0001729483d34dbdcc7d"},
	{-1000, "000197d8806325bc1bfa"},
	{1 << 32, "000102031b5380bdfeff"},
	{-1 << 32, "00018df6ccca83bc411c"},
	{math.MaxInt - 1, "0001b3604aaf2f017f92"},
	{math.MaxInt, "00017da0748c6abd09e9"},
	{math.MinInt + 1, "0001fafb10f791bc4f4e"},
	{math.MinInt, "00017da0748c6abd09e9"},
}

func unhex(t *testing.T, text string) []byte {
	t.Helper()
	b, err := hex.DecodeString(text)
	if err != nil {
		t.Fatalf("%q: %v", text, err)
	}
	return b
}

// polynomials multiplies two polynomials over the field with two elements.
func polynomials(a, b byte) uint {
	var product uint
	for k := uint(0); k < 8; k++ {
		if b&(1<<k) != 0 {
			product ^= uint(a) << k
		}
	}
	return product
}

// remainder divides a polynomial by x^8 + x^4 + x^3 + x + 1.
func remainder(p uint) byte {
	for k := 15; k >= 8; k-- {
		if p&(1<<k) != 0 {
			p ^= 0x11b << (k - 8)
		}
	}
	return byte(p)
}

func product(a, b byte) byte { return remainder(polynomials(a, b)) }

// inverse looks for the inverse of an element.
func inverse(a byte) byte {
	for b := range 256 {
		if product(a, byte(b)) == 1 {
			return byte(b)
		}
	}
	return 0
}

// substitute is what the chapter says about the bits of a substitute.
func substitute(a byte) byte {
	b := inverse(a)
	bit := func(of byte, i int) byte { return of >> (i % 8) & 1 }
	var s byte
	for i := range 8 {
		sum := bit(b, i) ^ bit(b, i+4) ^ bit(b, i+5) ^ bit(b, i+6) ^ bit(b, i+7) ^ bit(0x63, i)
		s |= sum << i
	}
	return s
}

// size is the absolute value of n, also for the least int.
func size(n int) uint64 {
	if n < 0 {
		return -uint64(n)
	}
	return uint64(n)
}

// power multiplies factors, as many as n says, by squaring.
func power(a byte, n int) byte {
	result := byte(1)
	for left := size(n); left > 0; left >>= 1 {
		if left&1 == 1 {
			result = product(result, a)
		}
		a = product(a, a)
	}
	if n < 0 {
		return inverse(result)
	}
	return result
}

// elements returns all elements.
func elements() []byte {
	all := make([]byte, 256)
	for i := range all {
		all[i] = byte(i)
	}
	return all
}

// products returns what Mul returns for all pairs.
func products() *[256][256]byte {
	var all [256][256]byte
	for a := range 256 {
		for b := range 256 {
			all[a][b] = fields.Mul(byte(a), byte(b))
		}
	}
	return &all
}

// P5.1: the chapter's examples of products.
func TestMulExamples(t *testing.T) {
	for _, c := range []struct{ a, b, want byte }{
		{0x57, 0x83, 0xc1},
		{0x57, 0x13, 0xfe},
		{0x02, 0x80, 0x1b},
		{0x00, 0xff, 0x00},
		// Those of FIPS 197, section 4.2.1.
		{0x57, 0x02, 0xae},
		{0x57, 0x04, 0x47},
		{0x57, 0x08, 0x8e},
		{0x57, 0x10, 0x07},
		// The least and the greatest elements.
		{0x00, 0x00, 0x00},
		{0x01, 0x01, 0x01},
		{0xff, 0xff, 0x13},
		{0x80, 0x80, 0x9a},
		{0xff, 0x00, 0x00},
	} {
		if got := fields.Mul(c.a, c.b); got != c.want {
			t.Errorf("Mul(%x, %x) = %x, want %x", c.a, c.b, got, c.want)
		}
	}
}

// P5.1: the products of all pairs are those of the polynomials, modulo x^8 + x^4 + x^3 + x + 1.
func TestMulAllPairs(t *testing.T) {
	for _, a := range elements() {
		for _, b := range elements() {
			if got, want := fields.Mul(a, b), product(a, b); got != want {
				t.Errorf("Mul(%x, %x) = %x, want %x", a, b, got, want)
			}
		}
	}
}

// P5.1: the chapter's examples of powers.
func TestPowerExamples(t *testing.T) {
	for _, c := range []struct {
		a    byte
		n    int
		want byte
	}{
		{3, 255, 1},
		{2, 8, 0x1b},
		{2, -1, 0x8d},
		{0, 0, 1},
		{0, -1, 0},
	} {
		if got := fields.Power(c.a, c.n); got != c.want {
			t.Errorf("Power(%x, %d) = %x, want %x", c.a, c.n, got, c.want)
		}
	}
}

// P5.1: powers of chosen elements, with the exponents 0, 1, -1, 255, 256 and -255, and the ends of int.
func TestPowerTable(t *testing.T) {
	chosen := unhex(t, bases)
	for _, r := range powers {
		for i, want := range unhex(t, r.powers) {
			if got := fields.Power(chosen[i], r.n); got != want {
				t.Errorf("Power(%x, %d) = %x, want %x", chosen[i], r.n, got, want)
			}
		}
	}
}

// P5.1: the power of n factors is the product of n factors, and that of -n is its inverse, one by one up to 600.
func TestPowerByFactors(t *testing.T) {
	for _, a := range elements() {
		want := byte(1)
		for n := range 600 {
			if got := fields.Power(a, n); got != want {
				t.Errorf("Power(%x, %d) = %x, want %x", a, n, got, want)
			}
			if got := fields.Power(a, -n); got != inverse(want) {
				t.Errorf("Power(%x, %d) = %x, want %x", a, -n, got, inverse(want))
			}
			want = product(want, a)
		}
	}
}

// exponents returns numbers around 0, multiples of 255, powers of 2, and the ends of int.
func exponents() []int {
	all := []int{math.MaxInt, math.MinInt}
	for d := range 300 {
		all = append(all, d, -d, math.MaxInt-d, math.MinInt+d)
	}
	for k := range 62 {
		for d := -1; d <= 1; d++ {
			all = append(all, 1<<k+d, -1<<k+d)
		}
	}
	for _, m := range []int{2, 3, 256, 257, 65535, 1 << 40} {
		for d := -1; d <= 1; d++ {
			all = append(all, 255*m+d, -255*m+d)
		}
	}
	return all
}

// P5.1: powers of all elements with great exponents, against squares without any remainder.
func TestPowerGreatExponents(t *testing.T) {
	for _, a := range elements() {
		for _, n := range exponents() {
			if got, want := fields.Power(a, n), power(a, n); got != want {
				t.Errorf("Power(%x, %d) = %x, want %x", a, n, got, want)
			}
		}
	}
}

// P5.1: the powers of 0 are 0, but for the exponent 0; those of 1 are 1.
func TestPowersOfZeroAndOne(t *testing.T) {
	for _, n := range append(exponents(), 255, -255, 510, -510) {
		want := byte(0)
		if n == 0 {
			want = 1
		}
		if got := fields.Power(0, n); got != want {
			t.Errorf("Power(0, %d) = %x, want %x", n, got, want)
		}
		if got := fields.Power(1, n); got != 1 {
			t.Errorf("Power(1, %d) = %x, want 1", n, got)
		}
	}
}

// P5.2: the chapter's examples of inverses.
func TestInverseExamples(t *testing.T) {
	for a, want := range map[byte]byte{0x53: 0xca, 0xca: 0x53, 1: 1, 0: 0, 2: 0x8d, 0x8d: 2, 0xff: 0x1c} {
		if got := fields.Inverse(a); got != want {
			t.Errorf("Inverse(%x) = %x, want %x", a, got, want)
		}
	}
}

// P5.2: the product of each element other than 0 and its inverse is 1, and no other element is its inverse.
func TestInverseAll(t *testing.T) {
	if got := fields.Inverse(0); got != 0 {
		t.Errorf("Inverse(0) = %x, want 0", got)
	}
	for _, a := range elements()[1:] {
		got := fields.Inverse(a)
		if product(a, got) != 1 || fields.Mul(a, got) != 1 || fields.Mul(got, a) != 1 {
			t.Errorf("the product of %x and its inverse %x is not 1", a, got)
		}
		if want := inverse(a); got != want {
			t.Errorf("Inverse(%x) = %x, want %x", a, got, want)
		}
	}
}

// P5.2: an element is the inverse of its inverse; the inverse is the power with -1, and that with 254.
func TestInverseIsAPower(t *testing.T) {
	for _, a := range elements() {
		b := fields.Inverse(a)
		if got := fields.Inverse(b); got != a {
			t.Errorf("the inverse of the inverse of %x is %x", a, got)
		}
		if got := fields.Power(a, -1); got != b {
			t.Errorf("Power(%x, -1) = %x, want %x", a, got, b)
		}
		if got := fields.Power(a, 254); got != b {
			t.Errorf("Power(%x, 254) = %x, want %x", a, got, b)
		}
	}
}

// P5.3: the chapter's examples of substitutes, those of 0 and 1 among them.
func TestSubExamples(t *testing.T) {
	for a, want := range map[byte]byte{0: 0x63, 0x53: 0xed, 1: 0x7c} {
		if got := fields.Sub(a); got != want {
			t.Errorf("Sub(%x) = %x, want %x", a, got, want)
		}
	}
	for a, want := range map[byte]byte{0x63: 0, 0xed: 0x53, 0x7c: 1, 0: 0x52, 1: 9} {
		if got := fields.Back(a); got != want {
			t.Errorf("Back(%x) = %x, want %x", a, got, want)
		}
	}
}

// P5.3: all substitutes are those that FIPS 197 lists, in both directions.
func TestSubAll(t *testing.T) {
	forth, back := unhex(t, substitutes), unhex(t, originals)
	for _, a := range elements() {
		if got := fields.Sub(a); got != forth[a] {
			t.Errorf("Sub(%x) = %x, want %x", a, got, forth[a])
		}
		if got := fields.Back(a); got != back[a] {
			t.Errorf("Back(%x) = %x, want %x", a, got, back[a])
		}
	}
}

// P5.3: the bits of all substitutes are those that the chapter defines.
func TestSubBits(t *testing.T) {
	for _, a := range elements() {
		if got, want := fields.Sub(a), substitute(a); got != want {
			t.Errorf("Sub(%x) = %x, want %x", a, got, want)
		}
	}
}

// P5.3, P5.4: Back inverts Sub, and Sub inverts Back; so no two bytes have the same substitute.
func TestBackInvertsSub(t *testing.T) {
	seen := map[byte]byte{}
	for _, a := range elements() {
		if got := fields.Back(fields.Sub(a)); got != a {
			t.Errorf("Back(Sub(%x)) = %x", a, got)
		}
		if got := fields.Sub(fields.Back(a)); got != a {
			t.Errorf("Sub(Back(%x)) = %x", a, got)
		}
		if other, ok := seen[fields.Sub(a)]; ok {
			t.Errorf("%x and %x have the same substitute", a, other)
		}
		seen[fields.Sub(a)] = a
	}
}

// P5.4: no byte is its own substitute.
func TestNoByteIsItsSubstitute(t *testing.T) {
	for _, a := range elements() {
		if fields.Sub(a) == a || fields.Back(a) == a {
			t.Errorf("%x is its own substitute", a)
		}
	}
}

// P5.4: the product is commutative, and 1 is neutral, the only one; a product is 0 only if a factor is.
func TestMulIsCommutative(t *testing.T) {
	all := products()
	for a := range 256 {
		if all[a][1] != byte(a) || all[1][a] != byte(a) {
			t.Errorf("1 is not neutral for %x", a)
		}
		for b := range 256 {
			if all[a][b] != all[b][a] {
				t.Errorf("Mul(%x, %x) = %x, but Mul(%x, %x) = %x", a, b, all[a][b], b, a, all[b][a])
			}
			if (all[a][b] == 0) != (a == 0 || b == 0) {
				t.Errorf("Mul(%x, %x) = %x", a, b, all[a][b])
			}
			if a != 0 && b != 1 && all[a][b] == byte(a) {
				t.Errorf("%x is neutral for %x", b, a)
			}
		}
	}
}

// P5.4: the product is associative and distributes over the sum, for all triples.
func TestMulIsAssociativeAndDistributes(t *testing.T) {
	all := products()
	for a := range 256 {
		for b := range 256 {
			for c := range 256 {
				if all[all[a][b]][c] != all[a][all[b][c]] {
					t.Fatalf("not associative for %x, %x, %x", a, b, c)
				}
				if all[a][b^c] != all[a][b]^all[a][c] || all[b^c][a] != all[b][a]^all[c][a] {
					t.Fatalf("not distributive for %x, %x, %x", a, b, c)
				}
			}
		}
	}
}

// P5.4: the power of each element other than 0 with the exponent 255 is 1; 3 has no smaller one with that.
func TestOrders(t *testing.T) {
	for _, a := range elements()[1:] {
		if got := fields.Power(a, 255); got != 1 {
			t.Errorf("Power(%x, 255) = %x, want 1", a, got)
		}
		if got := fields.Power(a, -255); got != 1 {
			t.Errorf("Power(%x, -255) = %x, want 1", a, got)
		}
	}
	if got := fields.Power(0, 255); got != 0 {
		t.Errorf("Power(0, 255) = %x, want 0", got)
	}
	for n := 1; n < 255; n++ {
		if fields.Power(3, n) == 1 {
			t.Errorf("Power(3, %d) = 1", n)
		}
	}
}

// P5.1: exponents are added when powers are multiplied, whatever their signs are.
func TestPowersMultiply(t *testing.T) {
	for _, a := range elements()[1:] {
		for m := -260; m <= 260; m += 13 {
			for n := -258; n <= 258; n += 43 {
				got, want := fields.Mul(fields.Power(a, m), fields.Power(a, n)), fields.Power(a, m+n)
				if got != want {
					t.Errorf("the product of the powers of %x with %d and %d is %x, want %x", a, m, n, got, want)
				}
			}
		}
	}
}

// all returns the results of all functions for one element.
func all(a byte) string {
	return fmt.Sprintf("%x %x %x %x %x %x %x", fields.Mul(a, 0x57), fields.Mul(0x83, a), fields.Power(a, int(a)), fields.Power(a, -7), fields.Inverse(a), fields.Sub(a), fields.Back(a))
}

// P5.1 to P5.3: a result does not depend on the calls before, or on those at the same time.
func TestCallsAreIndependent(t *testing.T) {
	var first, again [256]string
	for i := range first {
		first[i] = all(byte(i))
	}
	var group sync.WaitGroup
	for i := range again {
		group.Add(1)
		go func() {
			defer group.Done()
			again[255-i] = all(byte(255 - i))
		}()
	}
	group.Wait()
	if first != again {
		t.Error("the same calls returned different results")
	}
}
