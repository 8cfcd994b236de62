package prim_test

import (
	"bytes"
	"crypto/sha256"
	"testing"

	"ratchet/api"
	"ratchet/prim"
)

// P9: the values of FIPS 180-4.
func TestSha256Vectors(t *testing.T) {
	for _, v := range [][2]string{
		{"", "e3b0c44298fc1c149afbf4c8996fb92427ae41e4649b934ca495991b7852b855"},
		{"abc", "ba7816bf8f01cfea414140de5dae2223b00361a396177a9cb410ff61f20015ad"},
		{"abcdbcdecdefdefgefghfghighijhijkijkljklmklmnlmnomnopnopq", "248d6a61d20638b8e5c026930c3e6039a33ce45964ff2167f6ecedd419db06c1"},
	} {
		if got := prim.Sha256([]byte(v[0])); got != hexKey(t, v[1]) {
			t.Errorf("Sha256(%q) = %x, want %s", v[0], got, v[1])
		}
	}
	million := bytes.Repeat([]byte("a"), 1000000)
	if got := prim.Sha256(million); got != hexKey(t, "cdc76e5c9914fb9281a1c7e284d73e67f1809a48a497200e046d39ccc7112cd0") {
		t.Errorf("a million a: %x", got)
	}
}

// Every length over four blocks, so that the padding meets each of its edges.
func TestSha256Lengths(t *testing.T) {
	all := noise(1, 300)
	for n := range len(all) + 1 {
		if got := prim.Sha256(all[:n]); got != sha256.Sum256(all[:n]) {
			t.Errorf("%d bytes: %x", n, got)
		}
	}
	full := bytes.Repeat([]byte{0xff}, 300)
	for n := range len(full) + 1 {
		if got := prim.Sha256(full[:n]); got != sha256.Sum256(full[:n]) {
			t.Errorf("%d bytes of 255: %x", n, got)
		}
	}
}

// 8192 and 2097152 bytes are where the length in bits needs one byte more.
func TestSha256LongLengths(t *testing.T) {
	all := noise(2, api.MaxInput)
	for _, n := range []int{8191, 8192, 8193, 65535, 65536, api.MaxInput - 1, api.MaxInput} {
		if got := prim.Sha256(all[:n]); got != sha256.Sum256(all[:n]) {
			t.Errorf("%d bytes: %x", n, got)
		}
	}
}

func TestSha256PastMaxInput(t *testing.T) {
	for _, n := range []int{api.MaxInput + 1, api.MaxInput + 64, 2 * api.MaxInput} {
		if got := prim.Sha256(noise(3, n)); got != (api.Key{}) {
			t.Errorf("%d bytes: %x, want zero", n, got)
		}
	}
}
