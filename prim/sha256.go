package prim

import (
	"math/bits"

	"ratchet/api"
)

// The first 32 bits of the fractions of the cube roots of the first 64 primes.
var roundConstants = [64]uint32{
	0x428a2f98, 0x71374491, 0xb5c0fbcf, 0xe9b5dba5, 0x3956c25b, 0x59f111f1, 0x923f82a4, 0xab1c5ed5,
	0xd807aa98, 0x12835b01, 0x243185be, 0x550c7dc3, 0x72be5d74, 0x80deb1fe, 0x9bdc06a7, 0xc19bf174,
	0xe49b69c1, 0xefbe4786, 0x0fc19dc6, 0x240ca1cc, 0x2de92c6f, 0x4a7484aa, 0x5cb0a9dc, 0x76f988da,
	0x983e5152, 0xa831c66d, 0xb00327c8, 0xbf597fc7, 0xc6e00bf3, 0xd5a79147, 0x06ca6351, 0x14292967,
	0x27b70a85, 0x2e1b2138, 0x4d2c6dfc, 0x53380d13, 0x650a7354, 0x766a0abb, 0x81c2c92e, 0x92722c85,
	0xa2bfe8a1, 0xa81a664b, 0xc24b8b70, 0xc76c51a3, 0xd192e819, 0xd6990624, 0xf40e3585, 0x106aa070,
	0x19a4c116, 0x1e376c08, 0x2748774c, 0x34b0bcb5, 0x391c0cb3, 0x4ed8aa4a, 0x5b9cca4f, 0x682e6ff3,
	0x748f82ee, 0x78a5636f, 0x84c87814, 0x8cc70208, 0x90befffa, 0xa4506ceb, 0xbef9a3f7, 0xc67178f2,
}

const shaBlock = 64

// digest is SHA-256 of a message of any length.
func digest(msg []byte) api.Key {
	value := [8]uint32{
		0x6a09e667, 0xbb67ae85, 0x3c6ef372, 0xa54ff53a,
		0x510e527f, 0x9b05688c, 0x1f83d9ab, 0x5be0cd19,
	}
	whole := len(msg) - len(msg)%shaBlock
	value = absorbed(value, msg[:whole])
	value = absorbed(value, padded(msg[whole:], len(msg)))
	return wordsKey(value)
}

// padded is the end of a message of the given length, filled up to whole blocks.
func padded(rest []byte, length int) []byte {
	end := make([]byte, 0, 2*shaBlock)
	end = append(end, rest...)
	end = append(end, 0x80)
	for len(end)%shaBlock != shaBlock-8 {
		end = append(end, 0)
	}
	return appendU64(end, uint64(length)*8)
}

func absorbed(value [8]uint32, blocks []byte) [8]uint32 {
	for i := 0; i < len(blocks); i += shaBlock {
		value = compressed(value, schedule(blocks[i:i+shaBlock]))
	}
	return value
}

// schedule spreads the 16 words of a block over the 64 rounds.
func schedule(block []byte) [64]uint32 {
	var w [64]uint32
	for i, b := range block {
		w[i/4] = w[i/4]<<8 | uint32(b)
	}
	for t := 16; t < 64; t++ {
		s0 := rotr(w[t-15], 7) ^ rotr(w[t-15], 18) ^ w[t-15]>>3
		s1 := rotr(w[t-2], 17) ^ rotr(w[t-2], 19) ^ w[t-2]>>10
		w[t] = s1 + w[t-7] + s0 + w[t-16]
	}
	return w
}

func compressed(value [8]uint32, w [64]uint32) [8]uint32 {
	a, b, c, d := value[0], value[1], value[2], value[3]
	e, f, g, h := value[4], value[5], value[6], value[7]
	for t := range w {
		s1 := rotr(e, 6) ^ rotr(e, 11) ^ rotr(e, 25)
		t1 := h + s1 + (e&f ^ ^e&g) + roundConstants[t] + w[t]
		s0 := rotr(a, 2) ^ rotr(a, 13) ^ rotr(a, 22)
		t2 := s0 + (a&b ^ a&c ^ b&c)
		h, g, f, e = g, f, e, d+t1
		d, c, b, a = c, b, a, t1+t2
	}
	for i, sum := range [8]uint32{a, b, c, d, e, f, g, h} {
		value[i] += sum
	}
	return value
}

func rotr(x uint32, n int) uint32 { return bits.RotateLeft32(x, -n) }

func wordsKey(words [8]uint32) api.Key {
	var k api.Key
	for i := range k {
		k[i] = byte(words[i/4] >> (24 - i%4*8))
	}
	return k
}

// appendU64 appends the 8 bytes of x, the greatest first.
func appendU64(b []byte, x uint64) []byte {
	for shift := 56; shift >= 0; shift -= 8 {
		b = append(b, byte(x>>shift))
	}
	return b
}
