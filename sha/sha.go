// Package sha has the sum of bytes, SHA-256 of FIPS 180-4: layer 2, see shared/doc/02-sha.md.
package sha

import (
	"math/bits"
	"muleteer/api"
	"strings"
)

// blockSize is how many bytes a block has, countSize how many of them tell how many bits were padded.
const (
	blockSize = 64
	countSize = 8
)

// mostPadded is the greatest number of bytes whose bits can be counted.
const mostPadded = 1 << 60

const hexDigits = "0123456789abcdef"

// constants are of the cube roots of the first 64 primes the first 32 bits behind the point.
var constants = [64]uint32{
	0x428a2f98, 0x71374491, 0xb5c0fbcf, 0xe9b5dba5, 0x3956c25b, 0x59f111f1, 0x923f82a4, 0xab1c5ed5,
	0xd807aa98, 0x12835b01, 0x243185be, 0x550c7dc3, 0x72be5d74, 0x80deb1fe, 0x9bdc06a7, 0xc19bf174,
	0xe49b69c1, 0xefbe4786, 0x0fc19dc6, 0x240ca1cc, 0x2de92c6f, 0x4a7484aa, 0x5cb0a9dc, 0x76f988da,
	0x983e5152, 0xa831c66d, 0xb00327c8, 0xbf597fc7, 0xc6e00bf3, 0xd5a79147, 0x06ca6351, 0x14292967,
	0x27b70a85, 0x2e1b2138, 0x4d2c6dfc, 0x53380d13, 0x650a7354, 0x766a0abb, 0x81c2c92e, 0x92722c85,
	0xa2bfe8a1, 0xa81a664b, 0xc24b8b70, 0xc76c51a3, 0xd192e819, 0xd6990624, 0xf40e3585, 0x106aa070,
	0x19a4c116, 0x1e376c08, 0x2748774c, 0x34b0bcb5, 0x391c0cb3, 0x4ed8aa4a, 0x5b9cca4f, 0x682e6ff3,
	0x748f82ee, 0x78a5636f, 0x84c87814, 0x8cc70208, 0x90befffa, 0xa4506ceb, 0xbef9a3f7, 0xc67178f2,
}

// Sum is a sum.
type Sum [32]byte

// Start is the first state.
func Start() [8]uint32 {
	return [8]uint32{0x6a09e667, 0xbb67ae85, 0x3c6ef372, 0xa54ff53a, 0x510e527f, 0x9b05688c, 0x1f83d9ab, 0x5be0cd19}
}

// Turn turns a state by a block.
func Turn(state [8]uint32, block string) ([8]uint32, api.Errno) {
	if len(block) != blockSize {
		return [8]uint32{}, api.ErrArg
	}
	turned := state
	for t, w := range words(block) {
		turned = round(turned, constants[t]+w)
	}
	for i, x := range turned {
		state[i] += x
	}
	return state, api.OK
}

// words are the words of a block, and those that come of them.
func words(block string) [64]uint32 {
	var w [64]uint32
	for t := range w {
		if t < 16 {
			at := 4 * t
			w[t] = uint32(block[at])<<24 | uint32(block[at+1])<<16 | uint32(block[at+2])<<8 | uint32(block[at+3])
			continue
		}
		x, y := w[t-2], w[t-15]
		w[t] = (right(x, 17) ^ right(x, 19) ^ x>>10) + w[t-7] + (right(y, 7) ^ right(y, 18) ^ y>>3) + w[t-16]
	}
	return w
}

// round is what a state becomes by the sum of a constant and a word.
func round(s [8]uint32, x uint32) [8]uint32 {
	a, b, c, e, f, g := s[0], s[1], s[2], s[4], s[5], s[6]
	chosen := e&f ^ ^e&g
	most := a&b ^ a&c ^ b&c
	t1 := s[7] + (right(e, 6) ^ right(e, 11) ^ right(e, 25)) + chosen + x
	t2 := (right(a, 2) ^ right(a, 13) ^ right(a, 22)) + most
	return [8]uint32{t1 + t2, a, b, c, s[3] + t1, e, f, g}
}

func right(x uint32, by int) uint32 {
	return bits.RotateLeft32(x, -by)
}

// Pad is what stands behind so many bytes in their padded ones.
func Pad(n int) string {
	if n < 0 || n > mostPadded {
		return ""
	}
	noughts := (2*blockSize - 1 - countSize - n%blockSize) % blockSize
	count := 8 * uint64(n)
	var tail [countSize]byte
	for i := range tail {
		tail[i] = byte(count >> (8 * (countSize - 1 - i)))
	}
	return "\x80" + strings.Repeat("\x00", noughts) + string(tail[:])
}

// Of is the sum of all parts, one behind the other.
func Of(parts ...string) Sum {
	whole := strings.Join(parts, "")
	whole += Pad(len(whole))
	state := Start()
	for ; whole != ""; whole = whole[blockSize:] {
		state, _ = Turn(state, whole[:blockSize])
	}
	var sum Sum
	for i := range sum {
		sum[i] = byte(state[i/4] >> (8 * (3 - i%4)))
	}
	return sum
}

// Hex is a sum's digits.
func Hex(s Sum) string {
	var b strings.Builder
	for _, x := range s {
		b.WriteByte(hexDigits[x>>4])
		b.WriteByte(hexDigits[x&15])
	}
	return b.String()
}

// Parse is the sum of digits.
func Parse(s string) (Sum, api.Errno) {
	var sum Sum
	if len(s) != 2*len(sum) {
		return Sum{}, api.ErrForm
	}
	for i := range len(s) {
		n := strings.IndexByte(hexDigits, s[i])
		if n < 0 {
			return Sum{}, api.ErrForm
		}
		sum[i/2] = sum[i/2]<<4 | byte(n)
	}
	return sum, api.OK
}
