// Package words is layer 1: see shared/doc/01-words.md.
package words

import (
	"math/bits"

	"caisson/api"
)

// How many bytes a number has.
const (
	size32 = 4
	size64 = 8
)

// Put32 returns the bytes of a number.
func Put32(v uint32) []byte { return put(uint64(v), size32) }

// Put64 returns the bytes of a number.
func Put64(v uint64) []byte { return put(v, size64) }

// Get32 returns the number with bytes.
func Get32(b []byte) (uint32, api.Errno) {
	v, e := get(b, size32)
	return uint32(v), e
}

// Get64 returns the number with bytes.
func Get64(b []byte) (uint64, api.Errno) { return get(b, size64) }

// Rot returns a rotated number.
func Rot(v uint32, n int) uint32 { return bits.RotateLeft32(v, n) }

// Join returns the bytes of parts, one after another.
func Join(parts ...[]byte) []byte {
	size := 0
	for _, p := range parts {
		size += len(p)
	}
	// Append could leave spare capacity, which a result must not have.
	joined := make([]byte, size)
	at := 0
	for _, p := range parts {
		at += copy(joined[at:], p)
	}
	return joined
}

// Xor returns the exclusive or of two strings of bytes.
func Xor(a, b []byte) ([]byte, api.Errno) {
	if e := checkLength(b, len(a)); e != api.OK {
		return nil, e
	}
	x := make([]byte, len(a))
	for i := range x {
		x[i] = a[i] ^ b[i]
	}
	return x, api.OK
}

func put(v uint64, size int) []byte {
	b := make([]byte, size)
	for i := range size {
		b[i] = byte(v >> (8 * (size - 1 - i)))
	}
	return b
}

func get(b []byte, size int) (uint64, api.Errno) {
	if e := checkLength(b, size); e != api.OK {
		return 0, e
	}
	var v uint64
	for _, c := range b {
		v = v<<8 | uint64(c)
	}
	return v, api.OK
}

func checkLength(b []byte, want int) api.Errno {
	switch {
	case len(b) < want:
		return api.ErrShort
	case len(b) > want:
		return api.ErrForm
	}
	return api.OK
}
