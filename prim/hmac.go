package prim

import (
	"slices"

	"ratchet/api"
)

// mac is HMAC-SHA256 of the parts, one behind the other, of any length.
func mac(key []byte, parts ...[]byte) api.Key {
	inner := digest(append(keyPad(key, 0x36), slices.Concat(parts...)...))
	return digest(append(keyPad(key, 0x5c), inner[:]...))
}

// keyPad is the key filled up to a block, each byte joined with pad.
func keyPad(key []byte, pad byte) []byte {
	block := make([]byte, shaBlock)
	if len(key) > shaBlock {
		short := digest(key)
		copy(block, short[:])
	} else {
		copy(block, key)
	}
	for i := range block {
		block[i] ^= pad
	}
	return block
}

// expand is the second half of HKDF. The caller keeps n at 255 digests or
// fewer, so that the counter fits its byte.
func expand(prk api.Key, info []byte, n int) []byte {
	var okm, last []byte
	for i := byte(1); len(okm) < n; i++ {
		t := mac(prk[:], last, info, []byte{i})
		last = t[:]
		okm = append(okm, last...)
	}
	return okm[:n]
}
